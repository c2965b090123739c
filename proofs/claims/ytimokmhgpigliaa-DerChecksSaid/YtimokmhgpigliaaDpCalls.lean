/- The seven calls of package der, as its laws ask for them. -/
import Derived.Test.YtimokmhgpigliaaDrCalls
import Derived.Test.YtimokmhgpigliaaDpChk
import Derived.Test.YtimokmhgpigliaaDpInt
import Derived.Test.YtimokmhgpigliaaDpOid
import Derived.Test.YtimokmhgpigliaaDpROid
namespace Go.Proofs.Ytimokmhgpigliaa
set_option maxRecDepth 100000
set_option linter.unusedSimpArgs false
set_option linter.unusedVariables false

theorem drCalls : DrCalls where
  wr := fun n b w h0 h1 hs => write_any n b w h0 h1 hs
  rd := fun s w hs => read_any s w hs
  ck := fun s w hs => check_any s w hs
  ri := fun s w hs => readInt_any s w hs
  int := fun n w h0 h1 => int_any n w h0 h1
  oid := fun ao n c zs w hn hm hc hz hi => oid_any ao n c zs w hn hm hc hz hi
  ro := fun s w hs => readOid_any s w hs
end Go.Proofs.Ytimokmhgpigliaa
