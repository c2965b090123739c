/- What the laws of certificates ask of the program's calls. -/
import Derived.Test.YteomfleofeeofaaGreatDoorCtR
import Derived.Laws.StructEq
import Derived.ChangeKeysEq
namespace Go.Proofs.YteomfleofeeofaaGreatDoor
open Go.Lib (hid)
set_option maxHeartbeats 16000000
open Go.Proofs.Tryz
set_option maxRecDepth 100000
set_option linter.unusedSimpArgs false
set_option linter.unusedVariables false
section
open Go.RowKit Go.Sort
structure TmCalls (Q:World→Prop):Prop where
 step:∀ (w w':World),Q w→Below w.heap.size w w'→Q w'
 time:∀ (n:Int) (w:World),-9223372036854775808≤n→n≤9223372036854775807→Q w→Calls Tryz.prog 10 #[.int .i64 n] w fun ee w'=>ee=.returned (.tuple #[.string (timX n),.int .i64 (timE n)])∧Below w.heap.size w w'
 rd0:∀ (w:World),Q w→Calls Tryz.prog 16 #[.string ⟨#[]⟩] w fun ee w'=>ee=.returned (.tuple #[.agg (cRow 0 ⟨#[]⟩ 0 0 ⟨#[]⟩),.int .i64 11])∧Below w.heap.size w w'
structure MkCalls (F:SignF) (Q:World→Prop):Prop where
 tm:TmCalls Q
 step:∀ (w w':World),Q w→Below w.heap.size w w'→Q w'
 make:∀ (sr:Int) (b:ByteArray) (d e:Int) (f seed:ByteArray) (w:World),-9223372036854775808≤sr→sr≤9223372036854775807→-9223372036854775808≤d→d≤9223372036854775807→-9223372036854775808≤e→e≤9223372036854775807→b.size≤1000→f.size≤1000→Q w→Calls Tryz.prog 14 #[.agg (cRow sr b d e f),.string seed] w fun ee w'=>ee=.returned (.tuple #[.string (makX F ⟨sr,b,d,e,f⟩ seed),.int .i64 (makE F ⟨sr,b,d,e,f⟩ seed)])∧Below w.heap.size w w'
structure RdCalls (F:SignF) (Q:World→Prop):Prop where
 tm:TmCalls Q
 step:∀ (w w':World),Q w→Below w.heap.size w w'→Q w'
 read:∀ (s:ByteArray) (w:World),Q w→Calls Tryz.prog 16 #[.string s] w fun ee w'=>ee=.returned (.tuple #[.agg (cerL (reC F s)),.int .i64 (reE F s)])∧Below w.heap.size w w'
 print:∀ (s:ByteArray) (w:World),s.size≤1000000→Q w→Calls Tryz.prog 18 #[.string s] w fun ee w'=>ee=.returned (.string (F.sum s))∧Below w.heap.size w w'
structure AlCalls (F:SignF) (Q:World→Prop):Prop where
 tm:TmCalls Q
 step:∀ (w w':World),Q w→Below w.heap.size w w'→Q w'
 allow:∀ (s:ByteArray) (now:Int) (ao:Option Addr) (n c:Nat) (ss:List ByteArray) (w:World),s.size≤1000000→-9223372036854775808≤now→now≤9223372036854775807→ss.length=n→n≤1000000→n≤c→StrsAt w ao ss→Q w→Calls Tryz.prog 20 #[.string s,.int .i64 now,.slice ao n c] w fun ee w'=>ee=.returned (.int .i64 (alE F s now ss))∧Below w.heap.size w w'
structure CtCalls (F:SignF) (Q:World→Prop):Prop where
 tm:TmCalls Q
 mkd:MkCalls F Q
 rdd:RdCalls F Q
 ald:AlCalls F Q
 step:∀ (w w':World),Q w→Below w.heap.size w w'→Q w'
 pub:∀ (s:ByteArray) (w:World),Q w→Calls Tryz.prog 22 #[.string s] w fun ee w'=>ee=.returned (.tuple #[.string (F.pub s),.int .i64 (sdE s)])∧Below w.heap.size w w'
theorem try_empty:okC ⟨#[]⟩=false:=by decide +kernel
theorem try_read(F:SignF):reE F ⟨#[]⟩=11∧reC F ⟨#[]⟩=noC:=by
 have h:reE F ⟨#[]⟩=11:=by rw[reE,if_neg (by decide),try_empty,if_neg Bool.false_ne_true]
 exact⟨h,(re_bad F _ 11 h (by decide)).1⟩
theorem ct_times:timX 0=⟨#[49,57,55,48,48,49,48,49,48,48,48,48,48,48,90]⟩∧timE 0=0∧timX 951782400=⟨#[50,48,48,48,48,50,50,57,48,48,48,48,48,48,90]⟩∧timE 951782400=0:=
 ⟨by rw[timX,if_pos (by decide)];exact try_time0,by decide,by rw[timX,if_pos (by decide)];exact try_time1,by decide⟩
theorem ctwake_of{Q:World→Prop}(C:TmCalls Q)(w:World)(hQ:Q w):Rt 12 #[] w (.bool true):=by
 unfold Rt;have HC:=hid C;have HQ:=hid hQ;have hb:=Below.refl w.heap.size w;have C1:=hid (fun W hW=>C.time 0 W (by decide) (by decide) hW);have C2:=hid (fun W hW=>C.time 951782400 W (by decide) (by decide) hW);have C3:=hid (fun W hW=>C.rd0 W hW);rw[ct_times.1,ct_times.2.1]at C1;rw[ct_times.2.2.1,ct_times.2.2.2]at C2;obtain⟨hz,hi⟩:=jzi qdn;clear hQ C hi;go_enter func12,ntmps12;go_wp2_with fail;refine (C1.out _ HQ.out).mono ?_;rintro ee W1⟨rfl,bk⟩;replace HQ:=hid (HC.out.step _ _ HQ.out bk);replace hb:=bws hb bk;clear bk;go_wp2_with fail;refine (C2.out _ HQ.out).mono ?_;rintro ee W2⟨rfl,bk⟩;replace HQ:=hid (HC.out.step _ _ HQ.out bk);replace hb:=bws hb bk;clear bk;go_wp2_with fail;refine (C3.out _ HQ.out).mono ?_;rintro ee W3⟨rfl,bk⟩;replace HQ:=hid (HC.out.step _ _ HQ.out bk);replace hb:=bws hb bk;clear bk;have z0:=hid (qad W3 (.cells (cRow 0 ⟨#[]⟩ 0 0 ⟨#[]⟩) 28));have HG1:=hid (jsh _ W3.heap.size _ (cRow 0 ⟨#[]⟩ 0 0 ⟨#[]⟩) _ _ z0.out);have bk:=jbr (qaf W3 (.cells (cRow 0 ⟨#[]⟩ 0 0 ⟨#[]⟩) 28)) (jlr _) (cRow 0 ⟨#[]⟩ 0 0 ⟨#[]⟩);replace HQ:=hid (HC.out.step _ _ HQ.out bk);replace hb:=bws hb bk;clear bk;go_wp2_with (with_reducible refine jsr rfl 28 _ _ rfl W3.heap.size (cRow 0 ⟨#[]⟩ 0 0 ⟨#[]⟩) rfl rfl 28 _ z0.out (qaq _ _ _ _ _) rfl (qa7 _ _ _ _ _) ?_);go_ret;exact⟨rfl,hb⟩
theorem part_int(sr:Int)(b:ByteArray)(d e:Int)(f:ByteArray)(i:Nat)(z:Int)(h:(cRow sr b d e f)[i]?=some (.int .i64 z))(w:World):(part 3 (cRow sr b d e f) i).run Tryz.prog w=.ok (.int .i64 z) w:=
 run_part_plain w (by kernel_rfl) h
theorem part_str(sr:Int)(b:ByteArray)(d e:Int)(f:ByteArray)(i:Nat)(z:ByteArray)(h:(cRow sr b d e f)[i]?=some (.string z))(w:World):(part 9 (cRow sr b d e f) i).run Tryz.prog w=.ok (.string z) w:=
 run_part_plain w (by kernel_rfl) h
theorem cert_same(sr:Int)(b:ByteArray)(d e:Int)(f:ByteArray)(w:World):(Op.equalIn 10000 28 (.agg (cRow sr b d e f)) (.agg (cRow sr b d e f))).run Tryz.prog w=.ok true w:=by
 have hf:(Tryz.prog.fieldsOf 28).toList.map (fun f=>(f.name== "_",f.type,f.offset))=[(false, 3,0),(false, 9,1),(false, 3,2),(false, 3,3),(false, 9,4)]:=by kernel_rfl
 rw[run_equalIn_agg w 9999 28 _ _ (by kernel_rfl) (by kernel_rfl)];have ei:∀ (a:Int) (w:World),(Op.equalIn 9999 3 (.int .i64 a) (.int .i64 a)).run Tryz.prog w=.ok true w:=fun a w=>by
  rw[run_equalIn_int w 9998 3 .i64 .i64 a a underlying3];simp
 have es:∀ (a:ByteArray) (w:World),(Op.equalIn 9999 9 (.string a) (.string a)).run Tryz.prog w=.ok true w:=fun a w=>by
  rw[run_equalIn_string w 9998 9 a a underlying9];simp
 generalize (Tryz.prog.fieldsOf 28).toList=fs at hf ⊢;have z0:fs.length=5:=by have:=congrArg List.length hf;simpa using this
 obtain⟨f0,f1,f2,f3,f4,rfl⟩:∃ a b c d e,fs=[a,b,c,d,e]:=by
  clear hf
  match fs,z0 with
  | [a,b,c,d,e],_=>exact⟨a,b,c,d,e,rfl⟩
 simp only[List.map_cons,List.map_nil,List.cons.injEq,Prod.mk.injEq,and_true]at hf;obtain⟨⟨a0,b0,c0⟩,⟨a1,b1,c1⟩,⟨a2,b2,c2⟩,⟨a3,b3,c3⟩,⟨a4,b4,c4⟩⟩:=hf;have n0:f0.name≠ "_":=by simpa using a0
 have n1:f1.name≠ "_":=by simpa using a1
 have n2:f2.name≠ "_":=by simpa using a2
 have n3:f3.name≠ "_":=by simpa using a3
 have n4:f4.name≠ "_":=by simpa using a4
 simp only[Op.eqFields,n0,n1,n2,n3,n4,ne_eq,not_false_eq_true,if_true,b0,b1,b2,b3,b4,c0,c1,c2,c3,c4,Sem.run_bind,Sem.run_ite,Sem.run_pure,part_int sr b d e f 0 sr rfl,part_str sr b d e f 1 b rfl,part_int sr b d e f 2 d rfl,part_int sr b d e f 3 e rfl,part_str sr b d e f 4 f rfl,Result.andThen_ok,ei,es,Bool.not_true,Bool.false_eq_true,if_false]
theorem cert_eql(sr:Int)(b:ByteArray)(d e:Int)(f:ByteArray)(w:World):(binOp .eql 28 (.agg (cRow sr b d e f)) (.agg (cRow sr b d e f))).run Tryz.prog w=.ok (.bool true) w:=by
 rw[run_eql_struct,cert_same]
 rfl
theorem cert_guard(sr:Int)(b:ByteArray)(d e:Int)(f:ByteArray)(x y:Operand)(w:World):(eqGuard .eql 28 x y (.agg (cRow sr b d e f)) (.agg (cRow sr b d e f))).run Tryz.prog w=.ok () w:=
 run_eqGuard_agg w .eql 28 x y _ _ (by kernel_rfl)
end
end Go.Proofs.YteomfleofeeofaaGreatDoor
