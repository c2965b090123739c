/- The program's scalar and salt of a seed, the base so many times, the number of a text's digest. -/
import Derived.Test.YteomfleofeeofaaGreatDoorSgSpec
import Derived.Test.YteomfleofeeofaaGreatDoorSgLaid
import Derived.Test.YteomfleofeeofaaGreatDoorPpP
namespace Go.Proofs.YteomfleofeeofaaGreatDoor
open Go.Lib (hid)
set_option maxHeartbeats 16000000
open Go.Proofs.Tryz
set_option maxRecDepth 100000
set_option linter.unusedSimpArgs false
set_option linter.unusedVariables false
open Go.RowKit Go.Sort
theorem sum_digT(s:ByteArray)(w:World)(hs:s.size≤1099511627776)(hT:SgnQ w):Calls Tryz.prog 94 #[.string s] w fun e w'=>e=.returned (.string (digT s))∧Below w.heap.size w w':=sum512_any kf hf s w hT.1 hT.2.1 hs
theorem ptimes_any(n:ByteArray)(w:World)(hT:SgnQ w):Rt 46 #[.string n] w (.agg (uc (ptL (qbB baseP n)))):=by
 unfold Rt;have CB:=hid (fun W (hW:SgnQ W)=>ptBase_any W hW.2.2.1);have CM:=hid (fun W (hW:SgnQ W)=>ptMulT_any baseP n W baseP_ok hW.2.2.1);generalize qbB baseP n=m at *;generalize mulET n=q at *;generalize baseP=bp at *;obtain⟨hzp,z4⟩:=jzi qch;have HR:=hid (qad w (.cells zrow4 63));have hb:=qaf w (.cells zrow4 63);have HP:=hid (hT.step hb);clear z4 hT;go_enter func46,ntmps46;go_wp2_with fail;generalize (w.alloc _)=W0 at *;have hB:=hid hb.size;generalize z1:w.heap.size=B at *;have z2:=hid z1;clear z1;refine (CB.out W0 HP.out).mono ?_;rintro e W1⟨rfl,bk⟩;replace hb:=hb.trans (bk.mono hB.out);replace HP:=hid (HP.out.step bk);replace HR:=hkp HR bk;clear bk hB;go_wp2_with fail;refine (CM.out W1 HP.out).mono ?_;rintro e W2⟨rfl,bk⟩;replace hb:=bwt hb HR bk;replace HR:=hkp HR bk;clear bk HP CB CM;have HN:=hid (qad W2 (.cells zrow4 63));have hr:=qac HR.out;have q1:=hid (jsh _ W2.heap.size _ (uc (ptL m)) _ _ HN.out);have z0:Hid (((W2.alloc (.cells zrow4 63)).setRow W2.heap.size (uc (ptL m))).heap[B]?=some (.cells zrow4 63)):=hid (by rw[jro _ _ _ _ (by omega)];exact qah HR.out);have z3:Below B w ((W2.alloc (.cells zrow4 63)).setRow W2.heap.size (uc (ptL m))):=jbr (hb.alloc (by omega) _) (by omega) _;clear HR hb;go_wp2_with (first
  | (with_reducible refine jsr rfl 63 _ _ rfl W2.heap.size (uc (ptL m)) rfl rfl 63 _ HN.out (qaR _ (qas _)) (qaU _ (qas _)) (qar _) ?_)
  | (with_reducible refine jlw rfl 63 _ rfl W2.heap.size rfl 63 _ (0,0) _ q1.out underlying63 rfl (qaR _ (qas _)) ?_)
  | (with_reducible refine jsr rfl 63 _ _ rfl B (uc (ptL m)) rfl rfl 63 _ z0.out (qaR _ (qas _)) (qaU _ (qas _)) (qar _) ?_))
 exact jpr (v:=.agg (uc (ptL m))) (jrc (by rfl) _ _ B 63 _ (0,0) _ rfl (jsh _ _ _ _ _ _ z0.out) underlying63 rfl (qaR _ (qas _))) rfl ⟨rfl,by rw[z2.out];exact jbr z3 (jlr _) _⟩
theorem pwide_any(s:ByteArray)(w:World)(hs:s.size≤1099511627776)(hT:SgnQ w):Rt 56 #[.string s] w (.string (wdT s)):=by
 unfold Rt;have CD:=hid (fun W hW=>sum_digT s W hs hW);have CW:=hid (fun W (hW:SgnQ W)=>wide_any (digT s) W hW.2.2.2);rw[show qdF (digT s)=wdT s from rfl]at CW;generalize wdT s=x at *;generalize digT s=d at *;generalize qef d=q at *;have hb:=Below.refl w.heap.size w;have HP:=hid hT;clear hT;go_enter func56,ntmps56;go_wp2_with fail;refine (CD.out w HP.out).mono ?_;rintro e W1⟨rfl,bk⟩;replace hb:=bws hb bk;replace HP:=hid (HP.out.step bk);clear bk;go_wp2_with fail;refine (CW.out W1 HP.out).mono ?_;rintro e W2⟨rfl,bk⟩;replace hb:=bws hb bk;replace HP:=hid (HP.out.step bk);clear bk;go_wp2_with fail;go_ret;exact⟨rfl,hb⟩
end Go.Proofs.YteomfleofeeofaaGreatDoor
