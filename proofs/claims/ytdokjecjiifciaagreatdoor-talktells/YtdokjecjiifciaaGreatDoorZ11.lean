import Derived.Test.YtdokjecjiifciaaGreatDoorZ8
import Derived.Test.YtdokjecjiifciaaGreatDoorZ9
import Derived.Test.YtdokjecjiifciaaGreatDoorZ10
import Derived.Test.YtdokjecjiifciaaGreatDoorZ3
import Derived.Test.YtdokjecjiifciaaGreatDoorZ7
import Derived.Test.YtdokjecjiifciaaGreatDoorZ1
import Derived.ProofKit
import Derived.OpenShut
import Derived.MakeChecks
import Derived.LaidMore
import Derived.LaidHandle
import Derived.Stop.Joined
namespace Go.Proofs.YtdokjecjiifciaaGreatDoor
open Go.RowKit
set_option maxRecDepth 100000
theorem ltS_ok {P:Program}{l:Slots}{L:Blks}{o:Oper}{x y:Operand}{t t':TypeId}{X Y:List Nat}{b:Bool}(ho:o.op=.binOp .lss t x y t')(hx:evO l x=some (sB X))(hy:evO l y=some (sB Y))(hb:decide ((bs X).data.toList<(bs Y).data.toList)=b):RunV P l L o (.bool b):=fun ρ w A _=>by
 have h1:=A x _ hx
 have h2:=A y _ hy
 subst hb
 simp [execOp,ho,h1,h2,eqGuard,binOp,Op.stringOp,Go.Proofs.bytesLess_eq,Go.Lib.toList_data]
theorem rowN_lt {X Y:List Nat}(h:(bs Y).data.toList<(bs X).data.toList):rowN X Y=(Y,X):=
 rowN_yes (lesN_no (fun q=>q.elim (List.lt_asymm h) (fun e=>by rw [e]at h;exact List.lt_irrefl _ h)))
theorem rowN_ge {X Y:List Nat}(h:¬(bs Y).data.toList<(bs X).data.toList):rowN X Y=(X,Y):=by
 by_cases e:X=Y
 ·rw [e];unfold rowN;split <;> rfl
 ·have e1:lesN X Y=X:=lesN_yes (List.le_iff_lt_or_eq.1 (List.not_lt.1 h))
  exact rowN_no (by rw [e1];exact e)
theorem root_lt {A B:List Nat}(h:(bs B).data.toList<(bs (pbN A)).data.toList):shaN (packN [dLab]++packN [ssN A B,B,pbN A])=rootN A B:=by rw [rootN,rowN_lt h];rfl
theorem root_ge {A B:List Nat}(h:¬(bs B).data.toList<(bs (pbN A)).data.toList):shaN (packN [dLab]++packN [ssN A B,pbN A,B])=rootN A B:=by rw [rootN,rowN_ge h];rfl
theorem set3_0 {a b c x:Array Value}(ha:a.size=32)(hb:b.size=32)(hx:x.size=32):setFrom (a++b++c) 0 x.toList=x++b++c:=by
 apply Array.ext_getElem?
 intro j
 simp only [setFrom_get,Array.getElem?_append,Array.size_append,Array.length_toList,Array.getElem?_toList,ha,hb,hx]
 repeat' split
 all_goals first | rfl | (exfalso;omega) | (congr 1;omega) | (rw [Array.getElem?_eq_none (by omega),Array.getElem?_eq_none (by omega)])
theorem set3_1 {a b c x:Array Value}(ha:a.size=32)(hb:b.size=32)(hx:x.size=32):setFrom (a++b++c) 32 x.toList=a++x++c:=by
 apply Array.ext_getElem?
 intro j
 simp only [setFrom_get,Array.getElem?_append,Array.size_append,Array.length_toList,Array.getElem?_toList,ha,hb,hx]
 repeat' split
 all_goals first | rfl | (exfalso;omega) | (congr 1;omega) | (rw [Array.getElem?_eq_none (by omega),Array.getElem?_eq_none (by omega)])
theorem set3_2 {a b c x:Array Value}(ha:a.size=32)(hb:b.size=32)(hc:c.size=32)(hx:x.size=32):setFrom (a++b++c) 64 x.toList=a++b++x:=by
 apply Array.ext_getElem?
 intro j
 simp only [setFrom_get,Array.getElem?_append,Array.size_append,Array.length_toList,Array.getElem?_toList,ha,hb,hc,hx]
 repeat' split
 all_goals first | rfl | (exfalso;omega) | (congr 1;omega) | (rw [Array.getElem?_eq_none (by omega),Array.getElem?_eq_none (by omega)])
theorem en_rMeet:Enters Tryz.prog 37:=fun args w=>by simp [go_sem]
theorem en_rName:Enters Tryz.prog 39:=fun args w=>by simp [go_sem]
theorem en_rIdle:Enters Tryz.prog 41:=fun args w=>by simp [go_sem]
theorem en_noughts:Enters Tryz.prog 85:=fun args w=>by simp [go_sem]
theorem noughts_any (n:Nat)(hn:n≤1000000)(w0:World) :
  Calls Tryz.prog 85 #[iN n] w0 fun e w'=>e=.returned (sB (List.replicate n 0))∧Below w0.heap.size w0 w':=by
 refine eF Tryz.func85 rfl Tryz.ntmps85 (by simp) fun ac (FF:Fr 6 ac [(0,iN n)])=>?_
 have MM:=MemS.start w0
 refine wp_seq (rg_c FF MM [(0,t_ (sB []))] 3 [] [] (⟨(by kernel_rfl),fun _ _ FF1 MM1=>tN ?_⟩))
 refine wp_seq (rg_c FF1 MM1 [(1,n_ (.slice none n n) (.cells (cn .u8 (List.replicate n 0)) 5)),(0,l_ 0 (sB (List.replicate n 0)))] 0 [2] [] (⟨(make_ok (t:=77) (e:=5) (p:=(.tmp 3)) (q:=(.tmp 3)) (by kernel_rfl) rfl rfl Tryz.underlying77 (by kernel_rfl) (by omega)),fun b1=>⟨rfl,(str_all (List.length_replicate ..) (rep0_lt)),fun _ _ FF2 MM2=>tN ?_⟩⟩))
 refine wp_ret ?_
 repeat first | refine tR ?_ | refine iR ?_
 exact(ret_fr FF2 0 Tryz.results85 rfl ⟨rfl,MM2.below⟩)
theorem rmeet_ok (A B:List Nat)(hA:BytesK 32 A)(hB:BytesK 32 B)(hz:curveN A B≠0)(w0:World) :
  Calls Tryz.prog 37 #[.agg (cn .u8 A),.agg (cn .u8 B)] w0 fun e w'=>e=.returned (.tuple #[.agg ((cn .u8 (outN A B))++(cn .u8 (inN A B))++(cn .u8 (rootN A B))),iN 0])∧Below w0.heap.size w0 w':=by
 refine eF Tryz.func37 rfl Tryz.ntmps37 (by simp) fun ac (FF:Fr 55 ac [(0,.agg (cn .u8 A)),(1,.agg (cn .u8 B))])=>?_
 have MM:=MemS.start w0
 refine wp_seq (rg_c FF MM [(0,s_ 0 (.cells (cn .u8 A) 51)),(0,s_ 0 (.cells (cn .u8 B) 51)),(0,s_ 0 (.cells ((cn .u8 (List.replicate 32 0))++(cn .u8 (List.replicate 32 0))++(cn .u8 (List.replicate 32 0))) 91))] 6 [] [0,1] (⟨(by kernel_rfl),fun ba=>⟨(by kernel_rfl),fun bb=>⟨(by kernel_rfl),fun br=>fun _ _ FF1 MM1=>tN ?_⟩⟩⟩))
 refine wp_seq (rg_c FF1 MM1 [(0,b_ 2),(0,b_ 1),(0,t_ (.tuple #[.agg (cn .u8 (ssN A B)),.bool true])),(3,s_ 0 (.cells (cn .u8 (List.replicate 32 0)) 51)),(0,b_ 0)] 8 [] [] (⟨rfl,((cZ _ _).trans hA.1),rfl,((cZ _ _).trans hB.1),(cP en_rShared (by have h0:=rshared_any A B ⟨hA.1,hA.2⟩ ⟨hB.1,hB.2⟩;rw [decide_eq_true hz]at h0;exact h0) _),(by kernel_rfl),fun bs_=>⟨rfl,((cZ _ _).trans (List.length_replicate ..)),((cZ _ _).trans (ssN_ok A B).1),(cn_one _ _),rfl,fun _ _ FF2 MM2=>tN ?_⟩⟩))
 refine wp_seq ?_
 refine wp_seq (rg_c FF2 MM2 [] 7 [19] [] (fun _ _ FF3 MM3=>tN ?_))
 refine wp_cond_false (FF3.ev 0 rfl) ?_
 refine wp_skip ?_
 refine tN ?_
 refine wp_seq (rg_c FF3 MM3 [(0,b_ 3),(0,t_ (.agg (cn .u8 (pbN A)))),(0,s_ 0 (.cells (cn .u8 (List.replicate 32 0)) 51)),(0,b_ 0)] 9 [] [] (⟨rfl,((cZ _ _).trans hA.1),(cP en_rPub (rpub_any A ⟨hA.1,hA.2⟩) _),(by kernel_rfl),fun bo=>⟨rfl,((cZ _ _).trans (List.length_replicate ..)),((cZ _ _).trans (pbN_ok A).1),(cn_one _ _),rfl,fun _ _ FF4 MM4=>tN ?_⟩⟩))
 refine wp_seq (rg_dc 6 FF4 MM4 [(1,l_ 0 (sB (pbN A))),(1,l_ 3 (sB B))] [] 11 [] [] (⟨by decide,by decide,by decide,rfl,(str_all (pbN_ok A).1 (pbN_ok A).2),by decide,by decide,by decide,rfl,(str_all hB.1 hB.2),fun _ _ FF5 MM5=>tN ?_⟩))
 refine wp_seq (rg_c FF5 MM5 [(0,t_ (.agg ((cn .u8 (List.replicate 32 0))++(cn .u8 (List.replicate 32 0))++(cn .u8 (List.replicate 32 0))))),(0,s_ 0 (.cells ((cn .u8 (List.replicate 32 0))++(cn .u8 (List.replicate 32 0))++(cn .u8 (List.replicate 32 0))) 91)),(0,b_ 0)] 12 [] [] (⟨(by kernel_rfl),(by kernel_rfl),fun bp=>⟨rfl,(by simp [cZ]),(by simp [cZ]),(one_app (one_app (cn_one _ _) (cn_one _ _)) (cn_one _ _)),rfl,fun _ _ FF6 MM6=>tN ?_⟩⟩))
 refine wp_seq (rg_c FF6 MM6 [(1,l_ 2 (sB (ssN A B))),(2,s_ 0 (oC #[sB (ssN A B),sB (pbN A),sB B] 9)),(0,u_ 1 (.agg (cn .u8 (outN A B)))),(1,s_ 1 (.cells ((cn .u8 (outN A B))++(cn .u8 (List.replicate 32 0))++(cn .u8 (List.replicate 32 0))) 91))] 12 [] [] (⟨by decide,by decide,by decide,rfl,(str_all (ssN_ok A B).1 (ssN_ok A B).2),(by kernel_rfl),fun b3=>⟨⟨en_rdky,fun w Hw=>by have h0:=rdky_any tLab (lit_lt (by kernel_rfl)) [(ssN A B),(pbN A),B] (lt3t (ssN_ok A B).2 (pbN_ok A).2 hB.2) (by simp only [packN_len,List.length_cons,List.length_nil,List.flatten_cons,List.flatten_nil,List.append_nil,List.length_append,(ssN_ok A B).1,(pbN_ok A).1,hB.1];decide) (some ⟨b3,0,none⟩) 3 w (.inr ⟨b3,0,_,_,_,rfl,Hw 0 _ rfl,(at3s (ssN A B) (pbN A) B)⟩);exact h0⟩,rfl,(by simp [cZ,(outN_ok A B).1]),((cZ _ _).trans (outN_ok A B).1),(cn_one _ _),rfl,(set3_0 ((cZ _ _).trans (List.length_replicate ..)) ((cZ _ _).trans (List.length_replicate ..)) ((cZ _ _).trans (outN_ok A B).1)),fun _ _ FF7 MM7=>tN ?_⟩⟩))
 refine wp_seq (rg_c FF7 MM7 [(1,l_ 3 (sB (ssN A B))),(2,s_ 0 (oC #[sB (ssN A B),sB B,sB (pbN A)] 9)),(0,u_ 1 (.agg (cn .u8 (inN A B)))),(1,s_ 2 (.cells ((cn .u8 (outN A B))++(cn .u8 (inN A B))++(cn .u8 (List.replicate 32 0))) 91))] 12 [] [] (⟨by decide,by decide,by decide,rfl,(str_all (ssN_ok A B).1 (ssN_ok A B).2),(by kernel_rfl),fun b4=>⟨⟨en_rdky,fun w Hw=>by have h0:=rdky_any tLab (lit_lt (by kernel_rfl)) [(ssN A B),B,(pbN A)] (lt3t (ssN_ok A B).2 hB.2 (pbN_ok A).2) (by simp only [packN_len,List.length_cons,List.length_nil,List.flatten_cons,List.flatten_nil,List.append_nil,List.length_append,(ssN_ok A B).1,(pbN_ok A).1,hB.1];decide) (some ⟨b4,0,none⟩) 3 w (.inr ⟨b4,0,_,_,_,rfl,Hw 0 _ rfl,(at3s (ssN A B) B (pbN A))⟩);exact h0⟩,rfl,(by simp [cZ,(outN_ok A B).1,(inN_ok A B).1]),((cZ _ _).trans (inN_ok A B).1),(cn_one _ _),rfl,(set3_1 ((cZ _ _).trans (outN_ok A B).1) ((cZ _ _).trans (List.length_replicate ..)) ((cZ _ _).trans (inN_ok A B).1)),fun _ _ FF8 MM8=>tN ?_⟩⟩))
 refine wp_seq ?_
 by_cases hE:(bs B).data.toList<(bs (pbN A)).data.toList
 ·skip
  refine wp_seq (rg_c FF8 MM8 [(2,f_ (.bool true))] 12 [44] [] (⟨(ltS_ok (t:=9) (t':=9) (x:=.tmp 42) (y:=.tmp 43) (by kernel_rfl) rfl rfl (decide_eq_true hE)),fun _ _ FF9 MM9=>tN ?_⟩))
  refine wp_cond_true (FF9.ev 0 rfl) ?_
  refine rg_c FF9 MM9 [] 12 [] [] (fun _ _ FF10 MM10=>?_)
  refine tN ?_
  refine wp_seq (rg_c FF10 MM10 [(1,l_ 4 (sB (ssN A B))),(2,s_ 0 (oC #[sB (ssN A B),sB B,sB (pbN A)] 9)),(0,u_ 1 (.agg (cn .u8 (rootN A B)))),(1,s_ 3 (.cells ((cn .u8 (outN A B))++(cn .u8 (inN A B))++(cn .u8 (rootN A B))) 91))] 12 [] [] (⟨by decide,by decide,by decide,rfl,(str_all (ssN_ok A B).1 (ssN_ok A B).2),(by kernel_rfl),fun b5=>⟨⟨en_rdky,fun w Hw=>by have h0:=rdky_any dLab (lit_lt (by kernel_rfl)) [(ssN A B),B,(pbN A)] (lt3t (ssN_ok A B).2 hB.2 (pbN_ok A).2) (by simp only [packN_len,List.length_cons,List.length_nil,List.flatten_cons,List.flatten_nil,List.append_nil,List.length_append,(ssN_ok A B).1,(pbN_ok A).1,hB.1];decide) (some ⟨b5,0,none⟩) 3 w (.inr ⟨b5,0,_,_,_,rfl,Hw 0 _ rfl,(at3s (ssN A B) B (pbN A))⟩);rw [root_lt hE]at h0;exact h0⟩,rfl,(by simp [cZ,(outN_ok A B).1,(inN_ok A B).1,(rootN_ok A B).1]),((cZ _ _).trans (rootN_ok A B).1),(cn_one _ _),rfl,(set3_2 ((cZ _ _).trans (outN_ok A B).1) ((cZ _ _).trans (inN_ok A B).1) ((cZ _ _).trans (List.length_replicate ..)) ((cZ _ _).trans (rootN_ok A B).1)),fun _ _ FF11 MM11=>tN ?_⟩⟩))
  refine wp_seq (rg_c FF11 MM11 [(0,b_ 3),(0,b_ 6)] 12 [] [] (⟨rfl,(by simp [cZ,(outN_ok A B).1,(inN_ok A B).1,(rootN_ok A B).1]),rfl,(by simp [cZ]),(by simp [cZ,(outN_ok A B).1,(inN_ok A B).1,(rootN_ok A B).1]),(one_app (one_app (cn_one _ _) (cn_one _ _)) (cn_one _ _)),rfl,fun _ _ FF12 MM12=>tN ?_⟩))
  refine wp_ret ?_
  repeat first | refine tR ?_ | refine iR ?_
  exact(ret_ct FF12 MM12 (k:=96) (i:=6) (j:=6) (m:=0) Tryz.results37 rfl rfl rfl Tryz.underlying91 rfl (by kernel_rfl) (by simp [cZ,(outN_ok A B).1,(inN_ok A B).1,(rootN_ok A B).1]) ⟨rfl,MM12.below⟩)
 ·skip
  refine wp_seq (rg_c FF8 MM8 [(2,f_ (.bool false))] 12 [44] [] (⟨(ltS_ok (t:=9) (t':=9) (x:=.tmp 42) (y:=.tmp 43) (by kernel_rfl) rfl rfl (decide_eq_false hE)),fun _ _ FF13 MM13=>tN ?_⟩))
  refine wp_cond_false (FF13.ev 0 rfl) ?_
  refine wp_skip ?_
  refine tN ?_
  refine wp_seq (rg_c FF13 MM13 [(1,l_ 4 (sB (ssN A B))),(2,s_ 0 (oC #[sB (ssN A B),sB (pbN A),sB B] 9)),(0,u_ 1 (.agg (cn .u8 (rootN A B)))),(1,s_ 3 (.cells ((cn .u8 (outN A B))++(cn .u8 (inN A B))++(cn .u8 (rootN A B))) 91))] 12 [] [] (⟨by decide,by decide,by decide,rfl,(str_all (ssN_ok A B).1 (ssN_ok A B).2),(by kernel_rfl),fun b5=>⟨⟨en_rdky,fun w Hw=>by have h0:=rdky_any dLab (lit_lt (by kernel_rfl)) [(ssN A B),(pbN A),B] (lt3t (ssN_ok A B).2 (pbN_ok A).2 hB.2) (by simp only [packN_len,List.length_cons,List.length_nil,List.flatten_cons,List.flatten_nil,List.append_nil,List.length_append,(ssN_ok A B).1,(pbN_ok A).1,hB.1];decide) (some ⟨b5,0,none⟩) 3 w (.inr ⟨b5,0,_,_,_,rfl,Hw 0 _ rfl,(at3s (ssN A B) (pbN A) B)⟩);rw [root_ge hE]at h0;exact h0⟩,rfl,(by simp [cZ,(outN_ok A B).1,(inN_ok A B).1,(rootN_ok A B).1]),((cZ _ _).trans (rootN_ok A B).1),(cn_one _ _),rfl,(set3_2 ((cZ _ _).trans (outN_ok A B).1) ((cZ _ _).trans (inN_ok A B).1) ((cZ _ _).trans (List.length_replicate ..)) ((cZ _ _).trans (rootN_ok A B).1)),fun _ _ FF14 MM14=>tN ?_⟩⟩))
  refine wp_seq (rg_c FF14 MM14 [(0,b_ 3),(0,b_ 6)] 12 [] [] (⟨rfl,(by simp [cZ,(outN_ok A B).1,(inN_ok A B).1,(rootN_ok A B).1]),rfl,(by simp [cZ]),(by simp [cZ,(outN_ok A B).1,(inN_ok A B).1,(rootN_ok A B).1]),(one_app (one_app (cn_one _ _) (cn_one _ _)) (cn_one _ _)),rfl,fun _ _ FF15 MM15=>tN ?_⟩))
  refine wp_ret ?_
  repeat first | refine tR ?_ | refine iR ?_
  exact(ret_ct FF15 MM15 (k:=96) (i:=6) (j:=6) (m:=0) Tryz.results37 rfl rfl rfl Tryz.underlying91 rfl (by kernel_rfl) (by simp [cZ,(outN_ok A B).1,(inN_ok A B).1,(rootN_ok A B).1]) ⟨rfl,MM15.below⟩)
theorem rmeet_weak (A B:List Nat)(hA:BytesK 32 A)(hB:BytesK 32 B)(hz:curveN A B=0)(w0:World) :
  Calls Tryz.prog 37 #[.agg (cn .u8 A),.agg (cn .u8 B)] w0 fun e w'=>e=.returned (.tuple #[.agg ((cn .u8 (List.replicate 32 0))++(cn .u8 (List.replicate 32 0))++(cn .u8 (List.replicate 32 0))),iN 2])∧Below w0.heap.size w0 w':=by
 refine eF Tryz.func37 rfl Tryz.ntmps37 (by simp) fun ac (FF:Fr 55 ac [(0,.agg (cn .u8 A)),(1,.agg (cn .u8 B))])=>?_
 have MM:=MemS.start w0
 refine wp_seq (rg_c FF MM [(0,s_ 0 (.cells (cn .u8 A) 51)),(0,s_ 0 (.cells (cn .u8 B) 51)),(0,s_ 0 (.cells ((cn .u8 (List.replicate 32 0))++(cn .u8 (List.replicate 32 0))++(cn .u8 (List.replicate 32 0))) 91))] 6 [] [0,1] (⟨(by kernel_rfl),fun ba=>⟨(by kernel_rfl),fun bb=>⟨(by kernel_rfl),fun br=>fun _ _ FF1 MM1=>tN ?_⟩⟩⟩))
 refine wp_seq (rg_c FF1 MM1 [(0,b_ 2),(0,b_ 1),(0,t_ (.tuple #[.agg (cn .u8 (ssN A B)),.bool false])),(3,s_ 0 (.cells (cn .u8 (List.replicate 32 0)) 51)),(0,b_ 0)] 8 [] [] (⟨rfl,((cZ _ _).trans hA.1),rfl,((cZ _ _).trans hB.1),(cP en_rShared (by have h0:=rshared_any A B ⟨hA.1,hA.2⟩ ⟨hB.1,hB.2⟩;rw [decide_eq_false (fun e=>e hz)]at h0;exact h0) _),(by kernel_rfl),fun bs_=>⟨rfl,((cZ _ _).trans (List.length_replicate ..)),((cZ _ _).trans (ssN_ok A B).1),(cn_one _ _),rfl,fun _ _ FF2 MM2=>tN ?_⟩⟩))
 refine wp_seq ?_
 refine wp_seq (rg_c FF2 MM2 [] 7 [19] [] (fun _ _ FF3 MM3=>tN ?_))
 refine wp_cond_true (FF3.ev 0 rfl) ?_
 refine wp_seq (rg_c FF3 MM3 [(0,t_ (.agg ((cn .u8 (List.replicate 32 0))++(cn .u8 (List.replicate 32 0))++(cn .u8 (List.replicate 32 0))))),(0,b_ 1)] 7 [] [] (⟨(by kernel_rfl),rfl,(by simp [cZ]),(by simp [cZ]),(one_app (one_app (cn_one _ _) (cn_one _ _)) (cn_one _ _)),rfl,fun _ _ FF4 MM4=>tN ?_⟩))
 refine wp_ret ?_
 repeat first | refine tR ?_ | refine iR ?_
 exact(ret_ct FF4 MM4 (k:=96) (i:=1) (j:=2) (m:=0) Tryz.results37 rfl rfl rfl Tryz.underlying91 rfl (by kernel_rfl) (by simp [cZ]) ⟨rfl,MM4.below⟩)
theorem rname_any (R:List Nat)(r:Nat)(hR:BytesK 32 R)(hr:r<18446744073709551616)(w0:World) :
  Calls Tryz.prog 39 #[.agg (cn .u8 R),iW r] w0 fun e w'=>e=.returned (.agg (cn .u8 (nmN R r)))∧Below w0.heap.size w0 w':=by
 refine eF Tryz.func39 rfl Tryz.ntmps39 (by simp) fun ac (FF:Fr 11 ac [(0,.agg (cn .u8 R)),(1,iW r)])=>?_
 have MM:=MemS.start w0
 have hr1:=hR.1
 refine wp_seq (rg_c FF MM [(0,s_ 0 (.cells (cn .u8 R) 51)),(0,s_ 0 (.cells (cn .u8 (List.replicate 16 0)) 94))] 5 [] [0] (⟨(by kernel_rfl),fun bq=>⟨(by kernel_rfl),fun br=>fun _ _ FF1 MM1=>tN ?_⟩⟩))
 refine wp_seq (rg_draw FF1 MM1 [.inl (.slice (some ⟨bq,0,none⟩) 32 32),.inl (sB R),.inl (iW r),.inl (sB (leN 8 r)),.inr (oC #[sB R,sB (leN 8 r)] 9,fun b=>.slice (some ⟨b,0,none⟩) 2 2),.inl (.agg (cn .u8 (idN ([98,105,108,108,101,116,32,110,97,109,101]) ([R,leN 8 r]))))] [] [o_,l_ 1 (sB R),o_,t_ (sB (leN 8 r)),o_,u_ 1 (.agg (cn .u8 (idN ([98,105,108,108,101,116,32,110,97,109,101]) ([R,leN 8 r]))))] [b_ 0] [4] (fun nb=>[0≤32,32≤32,0<32,bq=bq,StrAt (cn .u8 R) 0 32 (bs R),CallP Tryz.prog 76 [iW r] [] (sB (leN 8 r)),CallP Tryz.prog 75 [sB ([98,105,108,108,101,116,32,110,97,109,101]),.slice (some ⟨(nb 4),0,none⟩) 2 2] [((nb 4),oC #[sB R,sB (leN 8 r)] 9),(br,.cells (cn .u8 (List.replicate 16 0)) 94),(bq,.cells (cn .u8 R) 51)] (.agg (cn .u8 (idN ([98,105,108,108,101,116,32,110,97,109,101]) ([R,leN 8 r]))))]) (fun nb Kt=>br=br∧(cn .u8 (List.replicate 16 0)).size=16∧(cn .u8 (idN ([98,105,108,108,101,116,32,110,97,109,101]) ([R,leN 8 r]))).size=16∧(cn .u8 (idN ([98,105,108,108,101,116,32,110,97,109,101]) ([R,leN 8 r]))).all (·.oneCell')=true∧(0,0).2=0∧Kt [(4,pT br)] [(br,.cells (cn .u8 (idN ([98,105,108,108,101,116,32,110,97,109,101]) ([R,leN 8 r]))) 94),(bq,.cells (cn .u8 R) 51)]) (by kernel_rfl) (by kernel_rfl) (by kernel_rfl) (fun _=>by kernel_rfl) (fun _ _=>by kernel_rfl) trivial (fun nb=>⟨by decide,by decide,by decide,rfl,(str_all hR.1 hR.2),(cP en_rround (rround_any r (by have:=hr;omega)) _),⟨en_rdid,fun w Hw=>rdid_any ([98,105,108,108,101,116,32,110,97,109,101]) (lit_lt rfl) ([R,leN 8 r]) (lt2 hR.2 (leN_lt _ _)) (by simp only [packN_len,List.length_cons,List.length_nil,List.flatten_cons,List.flatten_nil,List.append_nil,List.length_append,leN_len];omega) (some ⟨(nb 4),0,none⟩) 2 w (.inr ⟨(nb 4),0,_,_,_,rfl,Hw 0 _ rfl,(at2s R (leN 8 r))⟩)⟩,trivial⟩) (fun nb=>⟨rfl,((cZ _ _).trans (List.length_replicate ..)),((cZ _ _).trans (idN_len _ _)),(cn_one _ _),rfl,fun _ _ FF2 MM2=>tN ?_⟩))
 refine wp_ret ?_
 repeat first | refine tR ?_ | refine iR ?_
 exact(retc FF2 MM2 (k:=16) (i:=0) (j:=0) Tryz.results39 rfl rfl Tryz.underlying94 rfl (by kernel_rfl) ((cZ _ _).trans (idN_len _ _)) ⟨rfl,MM2.below⟩)
theorem ridle_any {t:Nat}{X:List Nat}(r:Nat)(hr:r<18446744073709551616)(hX:∀i,X.getD i 0<256)(w0:World)(H:Has w0 [(t,oC #[sB X,iN 0] 36)])(hD:Distinct [(t,oC #[sB X,iN 0] 36)]) :
  Calls Tryz.prog 41 #[pT t,iW r] w0 fun e w'=>e=.returned (sB ((takN 16 (X.drop 0))++(sealN (takN 32 (X.drop (0+16))) (nonN 3 r) [] (List.replicate 20 0))))∧TurnB [(t,RB X (0+16+32))] w0 w':=by
 refine eF Tryz.func41 rfl Tryz.ntmps41 (by simp) fun ac (FF:Fr 19 ac [(0,pT t),(1,iW r)])=>?_
 have MM:MemS (fun k=>k<w0.heap.size∧∀x∈[(t,oC #[sB X,iN 0] 36)],x.1≠k) w0 w0 [(t,oC #[sB X,iN 0] 36)] []:=MemS.startN H hD
 refine wp_seq (rg_c FF MM [(0,t_ (sB []))] 5 [] [] (⟨(by kernel_rfl),fun _ _ FF1 MM1=>tN ?_⟩))
 refine wp_seq (rg_c FF1 MM1 [(1,c_ (.agg (cn .u8 (takN 16 (X.drop 0)))) [(0,oC #[sB X,iN (0+16)] 36)]),(0,s_ 0 (.cells (cn .u8 (List.replicate 16 0)) 94)),(0,b_ 0)] 6 [] [] (⟨(callU_turn en_rid_ (g:=t) (ob:=RB X 0) rfl fun w hg=>by have h0:=rid__any t X 0 hX (by decide) w hg;exact h0),(by kernel_rfl),fun bi=>⟨rfl,((cZ _ _).trans (List.length_replicate ..)),((cZ _ _).trans (takN_len _ _)),(cn_one _ _),rfl,fun _ _ FF2 MM2=>tN ?_⟩⟩))
 refine wp_seq (rg_c FF2 MM2 [(1,c_ (.agg (cn .u8 (takN 32 (X.drop (0+16))))) [(1,oC #[sB X,iN ((0+16)+32)] 36)]),(0,s_ 0 (.cells (cn .u8 (List.replicate 32 0)) 51)),(0,b_ 0)] 7 [] [] (⟨(callU_turn en_rkey (g:=t) (ob:=RB X (0+16)) rfl fun w hg=>by have h0:=rkey_any t X (0+16) hX (by decide) w hg;exact h0),(by kernel_rfl),fun bk=>⟨rfl,((cZ _ _).trans (List.length_replicate ..)),((cZ _ _).trans (takN_len _ _)),(cn_one _ _),rfl,fun _ _ FF3 MM3=>tN ?_⟩⟩))
 refine wp_seq (rg_dc 9 FF3 MM3 [(1,l_ 1 (sB (takN 16 (X.drop 0)))),(0,b_ 0),(1,t_ (.agg (cn .u8 (nonN 3 r)))),(0,t_ (sB (List.replicate 20 0))),(0,t_ (sB (sealN (takN 32 (X.drop (0+16))) (nonN 3 r) [] (List.replicate 20 0)))),(0,t_ (sB ((takN 16 (X.drop 0))++(sealN (takN 32 (X.drop (0+16))) (nonN 3 r) [] (List.replicate 20 0)))))] [] 7 [] [1] (⟨by decide,by decide,by decide,rfl,(str_all (takN_len _ _) (takN_lt (dropX_lt hX 0) 16)),rfl,((cZ _ _).trans (takN_len _ _)),(cP en_rnonce (rnonce_any 3 r (by decide) (by have:=hr;omega)) _),(cP en_noughts (noughts_any 20 (by omega)) _),(cP en_rSeal (rseal_any (takN 32 (X.drop (0+16))) (nonN 3 r) ⟨(takN_len _ _),(takN_lt (dropX_lt hX (0+16)) 32)⟩ ⟨(nonN_len _ _),(nonN_lt _ _)⟩ [] (List.replicate 20 0) (lit_lt (by kernel_rfl)) (rep0_lt) (by decide) (by rw [List.length_replicate];decide)) _),(by simp only [bs_size,takN_len,sealN_len,List.length_replicate];decide),(vS2 (bs_app _ _)),fun _ _ FF4 MM4=>tN ?_⟩))
 refine wp_ret ?_
 repeat first | refine tR ?_ | refine iR ?_
 exact(ret_fr FF4 0 Tryz.results41 rfl ⟨rfl,MM4.turnB [(t,oC #[sB X,iN ((0+16)+32)] 36)] H (List.forall_mem_cons.2 ⟨(List.mem_of_getElem? (i:=2) rfl),(fun _ h=>(nomatch h))⟩) (List.forall_mem_cons.2 ⟨.inr ⟨_,(List.mem_of_getElem? (i:=0) rfl),rfl⟩,(fun _ h=>(nomatch h))⟩)⟩)
theorem idle_nil (r:Nat)(hr:r<18446744073709551616)(w0:World) :
  Calls Tryz.prog 40 #[.pointer none,iW r] w0 fun e w'=>e=.returned (sB ((List.replicate 16 0)++(sealN (List.replicate 32 0) (nonN 3 r) [] (List.replicate 20 0))))∧Below w0.heap.size w0 w':=by
 refine eF Tryz.func40 rfl Tryz.ntmps40 (by simp) fun ac (FF:Fr 24 ac [(0,.pointer none),(1,iW r)])=>?_
 have MM:=MemS.start w0
 refine wp_seq (rg_c FF MM [(0,t_ (sB []))] 5 [] [] (⟨(by kernel_rfl),fun _ _ FF1 MM1=>tN ?_⟩))
 refine wp_seq (rg_c FF1 MM1 [(1,t_ (.agg (cn .u8 (List.replicate 16 0)))),(0,s_ 0 (.cells (cn .u8 (List.replicate 16 0)) 95)),(0,b_ 0)] 6 [] [] (⟨(cP en_tid tid_nil _),(by kernel_rfl),fun bi=>⟨rfl,((cZ _ _).trans (List.length_replicate ..)),((cZ _ _).trans (List.length_replicate ..)),(cn_one _ _),rfl,fun _ _ FF2 MM2=>tN ?_⟩⟩))
 refine wp_seq (rg_c FF2 MM2 [(1,t_ (.agg (cn .u8 (List.replicate 32 0)))),(1,t_ (.agg (cn .u8 (nonN 3 r)))),(0,t_ (sB (List.replicate 20 0))),(0,t_ (sB (sealN (List.replicate 32 0) (nonN 3 r) [] (List.replicate 20 0))))] 7 [] [1] (⟨(cP en_tkey tkey_nil _),(cP en_tnon (tnon_any r (by have:=hr;omega)) _),(cP en_repeat (repeat0_any 20 (by decide)) _),(cP en_Seal (seal_any (List.replicate 32 0) (nonN 3 r) ⟨(List.length_replicate ..),(rep0_lt)⟩ ⟨(nonN_len _ _),(nonN_lt _ _)⟩ [] (List.replicate 20 0) (lit_lt (by kernel_rfl)) (rep0_lt (by decide)) (by decide) (by rw [List.length_replicate];decide)) _),fun _ _ FF3 MM3=>tN ?_⟩))
 refine wp_seq (rg_c FF3 MM3 [(0,b_ 0),(1,t_ (.tuple #[sB ((List.replicate 16 0)++(sealN (List.replicate 32 0) (nonN 3 r) [] (List.replicate 20 0))),iN 0]))] 6 [7] [] (⟨rfl,((cZ _ _).trans (List.length_replicate ..)),(cP en_request (fun w=>by have h0:=request_any (List.replicate 16 0) (List.length_replicate ..) (rep0_lt) (sealN (List.replicate 32 0) (nonN 3 r) [] (List.replicate 20 0)) w;rw [requestR_ok (by rw [sealN_len,List.length_replicate])]at h0;exact h0) _),fun _ _ FF4 MM4=>tN ?_⟩))
 refine wp_seq (rg_c FF4 MM4 [] 6 [] [] (fun _ _ FF5 MM5=>tN ?_))
 refine wp_ret ?_
 repeat first | refine tR ?_ | refine iR ?_
 exact(ret_fr FF5 0 Tryz.results40 rfl ⟨rfl,MM5.below⟩)
theorem say_real {b m1 m2 m3:Nat}(Tg:TypeId)(fg:Nat×Nat)(O I_ R X:List Nat)(r:Nat)(hO:BytesK 32 O)(hI:BytesK 32 I_)(hR:BytesK 32 R)(hr:r<18446744073709551616)(hX:∀i,X.getD i 0<256)(hl:X.length≤19)(w0:World)(H:Has w0 [(b,oC #[.bool false,.pointer none,.map (some m1),.map (some m2),.map (some m3),iN 0] 140),(m1,KM []),(m2,KM []),(m3,NM []),(0,Obj.cells (cn .u32 kTab) Tg fg)])(hD:Distinct [(b,oC #[.bool false,.pointer none,.map (some m1),.map (some m2),.map (some m3),iN 0] 140),(m1,KM []),(m2,KM []),(m3,NM []),(0,Obj.cells (cn .u32 kTab) Tg fg)]) :
  Calls Tryz.prog 42 #[pT b,.agg ((cn .u8 O)++((cn .u8 I_)++(cn .u8 R))),.bool true,iW r,sB X] w0 fun e w'=>e=.returned (.tuple #[sB ((nmN R r)++(sealN O (nonN 3 r) [] (bodyN X))),iN 0])∧TurnB [(m1,KM (shareK false 32 I_ (shareK false 32 O [] []) [])),(m3,NM (noteP false O (nonN 3 r) (shareK false 32 I_ (shareK false 32 O [] []) []) (bodyN X) []))] w0 w':=by
 refine eF Tryz.func42 rfl Tryz.ntmps42 (by simp) fun ac (FF:Fr 52 ac [(0,pT b),(1,.agg ((cn .u8 O)++((cn .u8 I_)++(cn .u8 R)))),(2,.bool true),(3,iW r),(4,sB X)])=>?_
 have MM:MemS (fun k=>k<w0.heap.size∧∀x∈[(b,oC #[.bool false,.pointer none,.map (some m1),.map (some m2),.map (some m3),iN 0] 140),(m1,KM []),(m2,KM []),(m3,NM []),(0,.cells (cn .u32 kTab) Tg fg)],x.1≠k) w0 w0 [(b,oC #[.bool false,.pointer none,.map (some m1),.map (some m2),.map (some m3),iN 0] 140),(m1,KM []),(m2,KM []),(m3,NM []),(0,.cells (cn .u32 kTab) Tg fg)] []:=MemS.startN H hD
 have hbl:=bodyN_len hl
 have hbt:=bodyN_lt hX hl
 refine wp_seq (rg_c FF MM [(0,s_ 0 (.cells ((cn .u8 O)++((cn .u8 I_)++(cn .u8 R))) 87)),(0,t_ (sB []))] 12 [] [1] (⟨(by kernel_rfl),fun bp=>⟨(by kernel_rfl),fun _ _ FF1 MM1=>tN ?_⟩⟩))
 refine wp_seq (rg_c FF1 MM1 [(1,t_ (.tuple #[sB (bodyN X),iN 0]))] 14 [] [4] (⟨(cP en_body (fun w=>by have h0:=body_any X hX w;rw [bodyR_ok hl]at h0;exact h0) _),fun _ _ FF2 MM2=>tN ?_⟩))
 refine wp_seq ?_
 refine wp_seq (rg_c FF2 MM2 [(1,w_ 3)] 14 [21] [] (⟨by decide,fun _ _ FF3 MM3=>tN ?_⟩))
 refine wp_cond_false (FF3.ev 0 rfl) ?_
 refine wp_skip ?_
 refine tN ?_
 refine wp_seq (rg_c FF3 MM3 [(1,l_ 0 (.agg (cn .u8 R))),(1,u_ 1 (.agg (cn .u8 (nmN R r)))),(0,s_ 0 (.cells (cn .u8 (List.replicate 16 0)) 95)),(0,b_ 0)] 15 [] [] (⟨rfl,(part_r 32 ((cZ _ _).trans hO.1) rfl (part_r 0 ((cZ _ _).trans hI.1) rfl (pW _))),((cZ _ _).trans hR.1),⟨en_tname,fun w Hw=>tname_any Tg fg R r ⟨hR.1,hR.2⟩ (by have:=hr;omega) w (Hw 5 _ rfl)⟩,(by kernel_rfl),fun bn=>⟨rfl,((cZ _ _).trans (List.length_replicate ..)),((cZ _ _).trans (nmN_ok R r).1),(cn_one _ _),rfl,fun _ _ FF4 MM4=>tN ?_⟩⟩))
 refine wp_seq ?_
 refine wp_seq (rg_c FF4 MM4 [] 28 [] [2] (fun _ _ FF5 MM5=>tN ?_))
 refine wp_cond_true (FF5.ev 0 rfl) ?_
 refine wp_seq (rg_c FF5 MM5 [(2,l_ 1 (.agg (cn .u8 O))),(0,c_ (.tuple #[]) [(3,KM (shareK false 32 O [] []))])] 15 [] [] (⟨rfl,(part_l (pW _)),((cZ _ _).trans hO.1),(callU_B [2,3] en_pshare rfl rfl (fun w Hw=>pshare_real (K:=O) (okP_nil _) ⟨hO.1,hO.2⟩ w Hw (dN rfl (distinct_at MM5.distinct (is:=[2,3]) rfl rfl)))),fun _ _ FF6 MM6=>tN ?_⟩))
 refine wp_seq (rg_c FF6 MM6 [(2,l_ 1 (.agg (cn .u8 I_))),(0,c_ (.tuple #[]) [(3,KM (shareK false 32 I_ (shareK false 32 O [] []) []))])] 15 [] [] (⟨rfl,(part_r 0 ((cZ _ _).trans hO.1) rfl (part_l (pW _))),((cZ _ _).trans hI.1),(callU_B [2,3] en_pshare rfl rfl (fun w Hw=>pshare_real (K:=I_) (share_ok false (okP_nil 32) hO (lit_lt (by kernel_rfl))) ⟨hI.1,hI.2⟩ w Hw (dN rfl (distinct_at MM6.distinct (is:=[2,3]) rfl rfl)))),fun _ _ FF7 MM7=>tN ?_⟩))
 refine rg_c FF7 MM7 [(1,b_ 0),(0,u_ 1 (.tuple #[]))] 15 [] [] (⟨rfl,((cZ _ _).trans (nmN_ok R r).1),(callP_B [2] en_pshareid rfl (fun w Hw=>pshareid_real (K:=(nmN R r)) ⟨(nmN_ok R r).1,(nmN_ok R r).2⟩ w Hw (dN rfl (distinct_at MM7.distinct (is:=[2]) rfl rfl)))),fun _ _ FF8 MM8=>?_⟩)
 refine tN ?_
 refine wp_seq (late_stand (N:=15) [(bp,.cells ((cn .u8 O)++((cn .u8 I_)++(cn .u8 R))) 87),(bn,.cells (cn .u8 (nmN R r)) 95),(0,.cells (cn .u32 kTab) Tg fg)] (by kernel_rfl) (by kernel_rfl) MM8 fun wq9 MM10=>?_)
 refine lT FF8 (i:=0) (oi:=(opAt Tryz.f42 9 0)) (v:=(pT b)) (d:=39) (atL_has (is:=[1,0,6]) rfl MM10.hasL) (by kernel_rfl) (by kernel_rfl) (by kernel_rfl) (by kernel_rfl) (by kernel_rfl) (fun _ _ _ _ _ h=>h) (by kernel_rfl) (by decide) (by kernel_rfl) (mvV (x:=(.tmp 0)) (by kernel_rfl) rfl) fun _ FF11=>?_
 refine lT FF11 (i:=1) (oi:=(opAt Tryz.f42 9 1)) (v:=(.agg (cn .u8 (nmN R r)))) (d:=40) (atL_has (is:=[1,0,6]) rfl MM10.hasL) (by kernel_rfl) (by kernel_rfl) (by kernel_rfl) (by kernel_rfl) (by kernel_rfl) (fun _ _ _ _ _ h=>h) (by kernel_rfl) (by decide) (by kernel_rfl) (loadRi (x:=(.tmp 14)) (k:=1) (m:=16) (by kernel_rfl) rfl Tryz.underlying95 rfl (by kernel_rfl) rfl ((cZ _ _).trans (nmN_ok R r).1)) fun _ FF12=>?_
 refine lT FF12 (i:=3) (oi:=(opAt Tryz.f42 9 3)) (v:=(pT b)) (d:=42) (atL_has (is:=[1,0,6]) rfl MM10.hasL) (by kernel_rfl) (by kernel_rfl) (by kernel_rfl) (by kernel_rfl) (by kernel_rfl) (fun _ _ _ _ _ h=>h) (by kernel_rfl) (by decide) (by kernel_rfl) (mvV (x:=(.tmp 0)) (by kernel_rfl) rfl) fun _ FF13=>?_
 refine lT FF13 (i:=4) (oi:=(opAt Tryz.f42 9 4)) (v:=(pT bp)) (d:=43) (atL_has (is:=[1,0,6]) rfl MM10.hasL) (by kernel_rfl) (by kernel_rfl) (by kernel_rfl) (by kernel_rfl) (by kernel_rfl) (fun _ _ _ _ _ h=>h) (by kernel_rfl) (by decide) (by kernel_rfl) (fldV (x:=(.tmp 6)) (t:=87) (k:=0) (cs:=[]) (by kernel_rfl) rfl (by kernel_rfl)) fun _ FF14=>?_
 refine lT FF14 (i:=5) (oi:=(opAt Tryz.f42 9 5)) (v:=(.agg (cn .u8 O))) (d:=44) (atL_has (is:=[1,0,6]) rfl MM10.hasL) (by kernel_rfl) (by kernel_rfl) (by kernel_rfl) (by kernel_rfl) (by kernel_rfl) (fun _ _ _ _ _ h=>h) (by kernel_rfl) (by decide) (by kernel_rfl) (loadPi (x:=(.tmp 43)) (k:=0) (m:=32) (by kernel_rfl) rfl Tryz.underlying52 rfl (by kernel_rfl) rfl (part_l (pW _)) ((cZ _ _).trans hO.1)) fun _ FF15=>?_
 refine lT FF15 (i:=6) (oi:=(opAt Tryz.f42 9 6)) (v:=(iW r)) (d:=45) (atL_has (is:=[1,0,6]) rfl MM10.hasL) (by kernel_rfl) (by kernel_rfl) (by kernel_rfl) (by kernel_rfl) (by kernel_rfl) (fun _ _ _ _ _ h=>h) (by kernel_rfl) (by decide) (by kernel_rfl) (mvV (x:=(.tmp 3)) (by kernel_rfl) rfl) fun _ FF16=>?_
 refine lT FF16 (i:=8) (oi:=(opAt Tryz.f42 9 8)) (v:=(sB (bodyN X))) (d:=47) (atL_has (is:=[1,0,6]) rfl MM10.hasL) (by kernel_rfl) (by kernel_rfl) (by kernel_rfl) (by kernel_rfl) (by kernel_rfl) (fun _ _ _ _ _ h=>h) (by kernel_rfl) (by decide) (by kernel_rfl) (mvV (x:=(.tmp 12)) (by kernel_rfl) rfl) fun _ FF17=>?_
 refine lO (i:=2) (oi:=(opAt Tryz.f42 9 2)) (by kernel_rfl) (by kernel_rfl) ?_
 refine rp_c 1 FF17 MM10 [(0,u_ 1 (.agg (cn .u8 (nmN R r))))] 48 [] [43,40,39,12] (⟨(callP_B [2,4] en_pID rfl (fun w Hw=>by have h0:=pID_any (K:=(nmN R r)) (okP_nil _) ⟨(nmN_ok R r).1,(nmN_ok R r).2⟩ w Hw (dN rfl (distinct_at MM10.distinct (is:=[2,4]) rfl rfl));rw [own_real (ownI_nil false)]at h0;exact h0)),fun _ _ FF18 MM18=>?_⟩)
 refine wpl_nil (onN_n ⟨fun _=>(atL_has (is:=[1,0,6]) rfl MM18.hasL),?_⟩)
 refine lO (i:=7) (oi:=(opAt Tryz.f42 9 7)) (by kernel_rfl) (by kernel_rfl) ?_
 refine rp_c 1 FF18 MM18 [(0,t_ (.agg (cn .u8 (nonN 3 r))))] 48 [] [45] (⟨(cP en_tnon (tnon_any r (by have:=hr;omega)) _),fun _ _ FF19 MM19=>?_⟩)
 refine wpl_nil (onN_n ⟨fun _=>(atL_has (is:=[1,0,6]) rfl MM19.hasL),?_⟩)
 refine lO (i:=9) (oi:=(opAt Tryz.f42 9 9)) (by kernel_rfl) (by kernel_rfl) ?_
 refine rp_c 1 FF19 MM19 [(0,c_ (sB (sealN O (nonN 3 r) [] (bodyN X))) [(5,NM (noteP false O (nonN 3 r) (shareK false 32 I_ (shareK false 32 O [] []) []) (bodyN X) []))])] 42 [48] [] (⟨(callU_B [2,3,5] en_pseal rfl rfl (fun w Hw=>by have h0:=pseal_any (K:=O) (share_ok false (share_ok false (okP_nil 32) hO (lit_lt (by kernel_rfl))) hI (lit_lt (by kernel_rfl))) ⟨hO.1,hO.2⟩ okQ_nil (N:=(nonN 3 r)) (Y:=(bodyN X)) ⟨(nonN_len _ _),(nonN_lt _ _)⟩ hbt (by rw [hbl];decide) (OwnI.share ((ownI_nil false).share []) []).get w Hw (dN rfl (distinct_at MM19.distinct (is:=[2,3,5]) rfl rfl));rw [real_box]at h0;exact h0)),fun _ _ FF20 MM20=>?_⟩)
 refine wpl_nil (onN_n ⟨fun _=>(atL_has (is:=[1,0,6]) rfl MM20.hasL),?_⟩)
 refine lO (i:=10) (oi:=(opAt Tryz.f42 9 10)) (by kernel_rfl) (by kernel_rfl) ?_
 refine rp_c 1 FF20 MM20 [(0,t_ (.tuple #[sB ((nmN R r)++(sealN O (nonN 3 r) [] (bodyN X))),iN 0]))] 15 [49] [] (⟨(cP en_request (fun w=>by have h0:=request_any (nmN R r) (nmN_ok R r).1 (nmN_ok R r).2 (sealN O (nonN 3 r) [] (bodyN X)) w;rw [requestR_ok (by rw [sealN_len,hbl])]at h0;exact h0) _),fun _ _ FF21 MM21=>?_⟩)
 refine wpl_nil (onN_n ⟨fun _=>(atL_has (is:=[1,0,6]) rfl MM21.hasL),?_⟩)
 refine lT FF21 (i:=11) (oi:=(opAt Tryz.f42 9 11)) (v:=(sB ((nmN R r)++(sealN O (nonN 3 r) [] (bodyN X))))) (d:=50) (atL_has (is:=[1,0,6]) rfl MM21.hasL) (by kernel_rfl) (by kernel_rfl) (by kernel_rfl) (by kernel_rfl) (by kernel_rfl) (fun _ _ _ _ _ h=>h) (by kernel_rfl) (by decide) (by kernel_rfl) (extV (x:=(.tmp 49)) (i:=0) (by kernel_rfl) rfl rfl) fun _ FF22=>?_
 refine lT FF22 (i:=12) (oi:=(opAt Tryz.f42 9 12)) (v:=(iN 0)) (d:=51) (atL_has (is:=[1,0,6]) rfl MM21.hasL) (by kernel_rfl) (by kernel_rfl) (by kernel_rfl) (by kernel_rfl) (by kernel_rfl) (fun _ _ _ _ _ h=>h) (by kernel_rfl) (by decide) (by kernel_rfl) (extV (x:=(.tmp 49)) (i:=1) (by kernel_rfl) rfl rfl) fun _ FF23=>?_
 refine lO (i:=13) (oi:=(opAt Tryz.f42 9 13)) (by kernel_rfl) (by kernel_rfl) ?_
 refine rp_c 1 FF23 MM21 [] 15 [51] [] (fun _ _ FF24 MM24=>?_)
 refine wpl_nil (onN_n ⟨fun _=>(atL_has (is:=[1,0,6]) rfl MM24.hasL),?_⟩)
 refine lO (i:=14) (oi:=(opAt Tryz.f42 9 14)) (by kernel_rfl) (by kernel_rfl) ?_
 refine rp_c 1 FF24 MM24 [] 15 [] [] (fun _ _ FF25 MM25=>?_)
 refine wpl_nil (onN_n ⟨fun _=>(atL_has (is:=[1,0,6]) rfl MM25.hasL),?_⟩)
 refine late_none (by kernel_rfl) (tN ?_)
 refine wp_ret ?_
 repeat first | refine tR ?_ | refine iR ?_
 exact(ret_tup2 FF25 1 0 Tryz.results42 rfl rfl ⟨rfl,MM25.turnB [(m1,KM (shareK false 32 I_ (shareK false 32 O [] []) [])),(m3,NM (noteP false O (nonN 3 r) (shareK false 32 I_ (shareK false 32 O [] []) []) (bodyN X) []))] H (List.forall_mem_cons.2 ⟨(List.mem_of_getElem? (i:=3) rfl),(List.forall_mem_cons.2 ⟨(List.mem_of_getElem? (i:=5) rfl),(fun _ h=>(nomatch h))⟩)⟩) (List.forall_mem_cons.2 ⟨.inl (List.mem_of_getElem? (i:=2) rfl),(List.forall_mem_cons.2 ⟨.inr ⟨_,(List.mem_of_getElem? (i:=0) rfl),rfl⟩,(List.forall_mem_cons.2 ⟨.inl (List.mem_of_getElem? (i:=4) rfl),(List.forall_mem_cons.2 ⟨.inr ⟨_,(List.mem_of_getElem? (i:=1) rfl),rfl⟩,(List.forall_mem_cons.2 ⟨.inl (List.mem_of_getElem? (i:=6) rfl),(fun _ h=>(nomatch h))⟩)⟩)⟩)⟩)⟩)⟩)
theorem hear_nil (O I_ R X Z:List Nat)(r:Nat)(hO:BytesK 32 O)(hI:BytesK 32 I_)(_hR:BytesK 32 R)(hr:r<18446744073709551616)(hX:∀i,X.getD i 0<256)(hl:X.length≤19)(hZ:∀i,Z.getD i 0<256)(hZl:Z.length≤1000000)(ho:opensN I_ (nonN 3 r) [] Z∧plainN I_ (nonN 3 r) Z=bodyN X)(w0:World) :
  Calls Tryz.prog 44 #[.pointer none,.agg ((cn .u8 O)++((cn .u8 I_)++(cn .u8 R))),iW r,sB Z] w0 fun e w'=>e=.returned (.tuple #[sB X,.bool true])∧Below w0.heap.size w0 w':=by
 refine eF Tryz.func44 rfl Tryz.ntmps44 (by simp) fun ac (FF:Fr 28 ac [(0,.pointer none),(1,.agg ((cn .u8 O)++((cn .u8 I_)++(cn .u8 R)))),(2,iW r),(3,sB Z)])=>?_
 have MM:=MemS.start w0
 have hbt:=bodyN_lt hX hl
 refine wp_seq (rg_c FF MM [(0,s_ 0 (.cells ((cn .u8 O)++((cn .u8 I_)++(cn .u8 R))) 87)),(0,t_ (sB []))] 9 [9] [1] (⟨(by kernel_rfl),fun bp=>⟨(by kernel_rfl),fun _ _ FF1 MM1=>tN ?_⟩⟩))
 refine wp_seq (rg_dc 12 FF1 MM1 [(2,l_ 0 (.agg (cn .u8 I_))),(1,t_ (.agg (cn .u8 (nonN 3 r)))),(1,t_ (.tuple #[sB (bodyN X),.bool true]))] [] 12 [] [5,0,2,3] (⟨rfl,(part_r 0 ((cZ _ _).trans hO.1) rfl (part_l (pW _))),((cZ _ _).trans hI.1),(cP en_tnon (tnon_any r (by have:=hr;omega)) _),(cP en_popen (fun w=>by have h0:=popen_nil_yes I_ (nonN 3 r) Z ⟨hI.1,hI.2⟩ ⟨(nonN_len _ _),(nonN_lt _ _)⟩ hZ hZl ho.1 w;rw [ho.2]at h0;exact h0) _),fun _ _ FF2 MM2=>tN ?_⟩))
 refine wp_seq ?_
 refine wp_seq (rg_c FF2 MM2 [] 11 [23] [] (fun _ _ FF3 MM3=>tN ?_))
 refine wp_cond_false (FF3.ev 0 rfl) ?_
 refine wp_skip ?_
 refine tN ?_
 refine wp_seq (rg_c FF3 MM3 [(1,t_ (.tuple #[sB X,.bool true]))] 9 [9] [] (⟨(cP en_text (fun w=>by have h0:=text_any (bodyN X) hbt w;rw [text_body hl]at h0;exact h0) _),fun _ _ FF4 MM4=>tN ?_⟩))
 refine wp_ret ?_
 repeat first | refine tR ?_ | refine iR ?_
 exact(ret_tup2 FF4 1 0 Tryz.results44 rfl rfl ⟨rfl,MM4.below⟩)
def frc {α:Type}(n:Nat)(k:Nat→α):α:=match n with
 | 0=>k 0
 | m+1=>k (m+1)
theorem frc_eq {α:Type}(n:Nat)(k:Nat→α):frc n k=k n:=by cases n <;> rfl
def revW (B:List Nat):Nat→List Nat
 | 0=>[]
 | n+1=>wAt B n::revW B n
theorem revW_get (B:List Nat):∀(n i:Nat),i<n→(revW B n).getD i 0=wAt B (n-1-i)
 | 0,_,h=>absurd h (Nat.not_lt_zero _)
 | n+1,0,_=>by simp [revW]
 | n+1,i+1,h=>by
  have:=revW_get B n i (by omega)
  simp only [revW,List.getD_cons_succ,this]
  congr 1;omega
def inw (B:List Nat):Nat→Nat→List Nat→List Nat
 | 0,_,L=>L
 | k+1,i,L=>frc (wd B (4*i)) fun x=>inw B k (i+1) (x::L)
theorem inw_eq (B:List Nat):∀(k i:Nat),i+k≤16→inw B k i (revW B i)=revW B (i+k)
 | 0,_,_=>rfl
 | k+1,i,h=>by
  rw [inw,frc_eq,←wAt_lo B (by omega)]
  exact(inw_eq B k (i+1) (by omega)).trans (by rw [show i+1+k=i+(k+1)by omega])
def sch:Nat→List Nat→List Nat
 | 0,L=>L
 | n+1,L=>frc (nxt (L.getD 15 0) (L.getD 14 0) (L.getD 6 0) (L.getD 1 0)) fun x=>sch n (x::L)
theorem sch_eq (B:List Nat):∀(k n:Nat),16≤n→sch k (revW B n)=revW B (n+k)
 | 0,_,_=>rfl
 | k+1,n,h=>by
  rw [sch,frc_eq,revW_get _ _ _ (by omega),revW_get _ _ _ (by omega),revW_get _ _ _ (by omega),revW_get _ _ _ (by omega)]
  have e:=wAt_hi B h
  rw [show n-16=n-1-15 by omega,show n-15=n-1-14 by omega,show n-7=n-1-6 by omega,show n-2=n-1-1 by omega]at e
  rw [←e]
  exact(sch_eq B k (n+1) (by omega)).trans (by rw [show n+1+k=n+(k+1)by omega])
def rn:List Nat→List Nat→Nat→Nat→Nat→Nat→Nat→Nat→Nat→Nat→List Nat
 | k::ks,w::ws,a,b,c,d,e,f,g,h=>frc (((((h+sg e 6 11 25)%4294967296+cho e f g)%4294967296+k)%4294967296+w)%4294967296) fun t=>frc ((t+(sg a 2 13 22+maj a b c)%4294967296)%4294967296) fun a'=>frc ((d+t)%4294967296) fun e'=>rn ks ws a' a b c e' e f g
 | _,_,a,b,c,d,e,f,g,h=>[a,b,c,d,e,f,g,h]
def fwd (B:List Nat):List Nat:=(revW B 64).reverse
theorem revW_len (B:List Nat):∀n,(revW B n).length=n
 | 0=>rfl
 | n+1=>by rw [revW,List.length_cons,revW_len B n]
theorem fwd_get (B:List Nat)(i:Nat)(h:i<(fwd B).length):(fwd B)[i]=wAt B i:=by
 have hl:i<64:=by simpa [fwd,revW_len]using h
 have e:=revW_get B 64 (63-i) (by omega)
 rw [show 64-1-(63-i)=i by omega]at e
 rw [←e,List.getD_eq_getElem?_getD]
 simp only [fwd,List.getElem_reverse,revW_len]
 rw [List.getElem?_eq_getElem (by rw [revW_len];omega)]
 simp
theorem eta8 {l:List Nat}(h:l.length=8):[l.getD 0 0,l.getD 1 0,l.getD 2 0,l.getD 3 0,l.getD 4 0,l.getD 5 0,l.getD 6 0,l.getD 7 0]=l:=by
 refine ext_getD (by rw [h];rfl) fun i hi=>?_
 have:i<8:=hi
 match i with
 | 0=>rfl
 | 1=>rfl
 | 2=>rfl
 | 3=>rfl
 | 4=>rfl
 | 5=>rfl
 | 6=>rfl
 | 7=>rfl
 | i+8=>omega
theorem getE_D (l:List Nat)(n:Nat)(h:n<l.length):l[n]'h=l.getD n 0:=by simp [h]
theorem rn_eq {H:List Nat}(hH:Wds 8 H)(B:List Nat){N:Nat}(hN:N=64):∀(m n:Nat),n+m=N→rn (kTab.drop n) ((fwd B).drop n) ((stK H B n).getD 0 0) ((stK H B n).getD 1 0) ((stK H B n).getD 2 0) ((stK H B n).getD 3 0) ((stK H B n).getD 4 0) ((stK H B n).getD 5 0) ((stK H B n).getD 6 0) ((stK H B n).getD 7 0)=stK H B N
 | 0,n,h=>by
  obtain rfl:n=N:=by omega
  rw [List.drop_eq_nil_of_le (by rw [kTab_wds.len];omega)]
  exact eta8 (stK_wds hH B n).len
 | m+1,n,h=>by
  have h1:n<kTab.length:=by rw [kTab_wds.len];omega
  have h2:n<(fwd B).length:=by simp [fwd,revW_len];omega
  rw [List.drop_eq_getElem_cons h1,List.drop_eq_getElem_cons h2,fwd_get,getE_D kTab n h1,rn,frc_eq,frc_eq,frc_eq]
  exact rn_eq hH B hN m (n+1) (by omega)
def evS (H B:List Nat):List Nat:=rn kTab (sch 48 (inw B 16 0 [])).reverse (H.getD 0 0) (H.getD 1 0) (H.getD 2 0) (H.getD 3 0) (H.getD 4 0) (H.getD 5 0) (H.getD 6 0) (H.getD 7 0)
theorem evS_eq {H:List Nat}(hH:Wds 8 H)(B:List Nat):evS H B=stK H B 64:=by
 have e1:inw B 16 0 []=revW B 16:=inw_eq B 16 0 (by decide)
 have e2:sch 48 (revW B 16)=revW B 64:=sch_eq B 48 16 (by decide)
 rw [evS,e1,e2]
 exact rn_eq hH B rfl 64 0 rfl
theorem aft_ev {H:List Nat}(hH:Wds 8 H)(B:List Nat){S:List Nat}(h:evS H B=S):aftN H B=[(H.getD 0 0+S.getD 0 0)%4294967296,(H.getD 1 0+S.getD 1 0)%4294967296,(H.getD 2 0+S.getD 2 0)%4294967296,(H.getD 3 0+S.getD 3 0)%4294967296,(H.getD 4 0+S.getD 4 0)%4294967296,(H.getD 5 0+S.getD 5 0)%4294967296,(H.getD 6 0+S.getD 6 0)%4294967296,(H.getD 7 0+S.getD 7 0)%4294967296]:=by
 rw [←h,evS_eq hH B];rfl
def ladE (ks:List Nat)(u:Nat):Nat→Nat→Nat→Nat→Nat→Nat→Lad
 | 0,_,a,b,c,d=>⟨a,b,c,d⟩
 | n+1,j,a,b,c,d=>frc ((((⟨a,b,c,d⟩:Lad).swap (bitAt ks (254-j))).step u).swap (bitAt ks (254-j))).x2 fun a'=>frc ((((⟨a,b,c,d⟩:Lad).swap (bitAt ks (254-j))).step u).swap (bitAt ks (254-j))).z2 fun b'=>frc ((((⟨a,b,c,d⟩:Lad).swap (bitAt ks (254-j))).step u).swap (bitAt ks (254-j))).x3 fun c'=>frc ((((⟨a,b,c,d⟩:Lad).swap (bitAt ks (254-j))).step u).swap (bitAt ks (254-j))).z3 fun d'=>ladE ks u n (j+1) a' b' c' d'
theorem ladE_eq (ks:List Nat)(u:Nat):∀n j,ladE ks u n j (ladTo ks u j).x2 (ladTo ks u j).z2 (ladTo ks u j).x3 (ladTo ks u j).z3=ladTo ks u (j+n)
 | 0,_=>rfl
 | n+1,j=>by
  rw [ladE,frc_eq,frc_eq,frc_eq,frc_eq]
  exact(ladE_eq ks u n (j+1)).trans (by rw [Nat.add_assoc,Nat.add_comm 1 n])
def invE (x:Nat):Nat→Nat→Nat→Nat
 | 0,_,a=>a
 | n+1,j,a=>frc (if j=252∨j=250 then a*a%pN else(a*a%pN)*x%pN) fun b=>invE x n (j+1) b
theorem invE_eq (x:Nat):∀n j,invE x n j (invTo x j)=invTo x (j+n)
 | 0,_=>rfl
 | n+1,j=>by
  rw [invE,frc_eq]
  exact(invE_eq x n (j+1)).trans (by rw [Nat.add_assoc,Nat.add_comm 1 n])
theorem curve_ev {ks us sc:List Nat}{u x z c d i r:Nat}(h1:scal ks=sc)(h2:numOf us%pN=u)(h3:ladE sc u 255 0 1 0 u 1=⟨x,z,c,d⟩)(h4:invE z 255 0 1=i)(h5:mN x i=r):curveN ks us=r:=by
 have e1:ladTo sc u 255=⟨x,z,c,d⟩:=((ladE_eq sc u 255 0).symm.trans (by exact h3):ladTo sc u (0+255)=_)
 have e2:invTo z 255=i:=((invE_eq z 255 0).symm.trans (by exact h4):invTo z (0+255)=_)
 rw [curveN,h1,h2,e1]
 show mN x (invTo z 255)=r
 rw [e2,h5]
theorem sha3_lit {X T B0 B1 B2 H1 H2 H3 D:List Nat}(eT:sTx X=T)(hn:T.length/64=3)(c0:(T.drop (64*0)).take 64=B0)(c1:(T.drop (64*1)).take 64=B1)(c2:(T.drop (64*2)).take 64=B2)(k1:aftN iv B0=H1)(k2:aftN H1 B1=H2)(k3:aftN H2 B2=H3)(hd:dgN H3=D):shaN X=D:=by
 rw [←sTx_sha,eT,hn]
 show dgN (aftN (aftN (aftN iv ((T.drop (64*0)).take 64)) ((T.drop (64*1)).take 64)) ((T.drop (64*2)).take 64))=D
 rw [c0,c1,c2,k1,k2,k3,hd]
def kA:List Nat:=[8,0,0,0,0,0,0,0,0,0,0,0,0,0,0,0,0,0,0,0,0,0,0,0,0,0,0,0,0,0,0,0]
def kB:List Nat:=[16,0,0,0,0,0,0,0,0,0,0,0,0,0,0,0,0,0,0,0,0,0,0,0,0,0,0,0,0,0,0,0]
def kZ:List Nat:=List.replicate 32 0
def pA:List Nat:=[66,44,142,122,98,39,215,188,161,53,11,62,43,183,39,159,120,151,184,123,182,133,75,120,60,96,232,3,17,174,48,121]
def pB:List Nat:=[141,32,248,199,187,251,154,243,218,78,245,50,237,68,239,198,140,230,66,188,93,12,92,177,215,185,27,150,199,78,223,2]
def sAB:List Nat:=[57,195,115,180,25,57,165,87,25,42,237,43,16,128,40,228,73,110,76,124,250,74,236,225,186,153,164,236,44,206,224,65]
theorem kA_ok:BytesK 32 kA:=⟨rfl,(lit_lt (by kernel_rfl))⟩
theorem kB_ok:BytesK 32 kB:=⟨rfl,(lit_lt (by kernel_rfl))⟩
theorem kZ_ok:BytesK 32 kZ:=⟨rfl,rep0_lt (by decide)⟩
theorem cv_a:curveN kA nine32=54815864700279561125610391355931320566748822376190344121911385527384361806914:=curve_ev (sc:=[8,0,0,0,0,0,0,0,0,0,0,0,0,0,0,0,0,0,0,0,0,0,0,0,0,0,0,0,0,0,0,64]) (u:=9) (x:=51308241408682788594860346115987951272351162540477535997429117057761542978319) (z:=47154794169143379669309714065436086811230587292877743942666655413522937240343) (c:=48684302112648453340776453877951235438069666527508432418671490419372981879472) (d:=14183203961276989654069734536689318038161764022992892782611580868881078690949) (i:=39574951172635768184342202644803103184672000961821277324233674078280658367447) (by kernel_rfl) (by kernel_rfl) (by kernel_rfl) (by kernel_rfl) (by kernel_rfl)
theorem cv_b:curveN kB nine32=1299176309664798452705863727368535174181477389508666144864262368914056945805:=curve_ev (sc:=[16,0,0,0,0,0,0,0,0,0,0,0,0,0,0,0,0,0,0,0,0,0,0,0,0,0,0,0,0,0,0,64]) (u:=9) (x:=18240689040596926117201691561459565316154972867344859683906279028078791758893) (z:=1372564893506322633309149429092736184374910567986066836341098575145101434737) (c:=41474732181857107681988327326677755642255625245005202953498057935531678887732) (d:=38759801906068702625381042015808796695207418119631655130169825982835766178752) (i:=45527452187490846667092325546224198652302204593308056906059209483753383515461) (by kernel_rfl) (by kernel_rfl) (by kernel_rfl) (by kernel_rfl) (by kernel_rfl)
theorem cv_ab:curveN kA pB=29797531871329179100092067802573677010323708215341275222425822897905599759161:=curve_ev (sc:=[8,0,0,0,0,0,0,0,0,0,0,0,0,0,0,0,0,0,0,0,0,0,0,0,0,0,0,0,0,0,0,64]) (u:=1299176309664798452705863727368535174181477389508666144864262368914056945805) (x:=43948874152742342318232923065035807212121424247779574205441621465648979502490) (z:=54475482668276393687485189474437509271598650685965290084083435230166884936121) (c:=42622327938580383506670517648552208765930822112083790169408052980788026500212) (d:=28507849348862407687137821400603652898721336620952761053035416936773458016417) (i:=10254781026365462501417414481018993895540272477326524004429291506750758125370) (by kernel_rfl) (by kernel_rfl) (by kernel_rfl) (by kernel_rfl) (by kernel_rfl)
theorem cv_ba:curveN kB pA=29797531871329179100092067802573677010323708215341275222425822897905599759161:=curve_ev (sc:=[16,0,0,0,0,0,0,0,0,0,0,0,0,0,0,0,0,0,0,0,0,0,0,0,0,0,0,0,0,0,0,64]) (u:=54815864700279561125610391355931320566748822376190344121911385527384361806914) (x:=56192444895775318330648945254989032024300160805396647659826361938474805992326) (z:=53726882189845022932647310522352541335194992486009951738952232196435739142603) (c:=48271520376431201747107420124589316503669227060209968670214417077623797974522) (d:=6398964468623647750474892730904017669309230047030286822997893712248254550903) (i:=57081260402431901717296715018970045890473867372084810908356910817974574212360) (by kernel_rfl) (by kernel_rfl) (by kernel_rfl) (by kernel_rfl) (by kernel_rfl)
theorem cv_z:curveN kA kZ=0:=curve_ev (sc:=[8,0,0,0,0,0,0,0,0,0,0,0,0,0,0,0,0,0,0,0,0,0,0,0,0,0,0,0,0,0,0,64]) (u:=0) (x:=0) (z:=0) (c:=0) (d:=0) (i:=0) (by kernel_rfl) (by kernel_rfl) (by kernel_rfl) (by kernel_rfl) (by kernel_rfl)
theorem pb_a:pbN kA=pA:=(congrArg keyL cv_a).trans (by kernel_rfl)
theorem pb_b:pbN kB=pB:=(congrArg keyL cv_b).trans (by kernel_rfl)
theorem ss_ab:ssN kA (pbN kB)=sAB:=by rw [pb_b];exact(congrArg keyL cv_ab).trans (by kernel_rfl)
theorem ss_ba:ssN kB (pbN kA)=sAB:=by rw [pb_a];exact(congrArg keyL cv_ba).trans (by kernel_rfl)
theorem nz_ab:¬curveN kA (pbN kB)=0:=by rw [pb_b,cv_ab];decide
theorem nz_ba:¬curveN kB (pbN kA)=0:=by rw [pb_a,cv_ba];decide
theorem ev_out0:aftN iv [11,0,0,0,98,105,108,108,101,116,32,116,97,108,107,32,0,0,0,57,195,115,180,25,57,165,87,25,42,237,43,16,128,40,228,73,110,76,124,250,74,236,225,186,153,164,236,44,206,224,65,32,0,0,0,66,44,142,122,98,39,215,188,161]=[3475863124,1121757718,154817798,2053554283,3879383302,2737816431,2902700909,2662089721]:=(aft_ev iv_wds _ (by kernel_rfl:evS iv [11,0,0,0,98,105,108,108,101,116,32,116,97,108,107,32,0,0,0,57,195,115,180,25,57,165,87,25,42,237,43,16,128,40,228,73,110,76,124,250,74,236,225,186,153,164,236,44,206,224,65,32,0,0,0,66,44,142,122,98,39,215,188,161]=[1696829421,2272590737,3435880852,3575040817,2519490183,136993507,2373966274,1120630496])).trans (by kernel_rfl)
theorem ev_out1:aftN [3475863124,1121757718,154817798,2053554283,3879383302,2737816431,2902700909,2662089721] [53,11,62,43,183,39,159,120,151,184,123,182,133,75,120,60,96,232,3,17,174,48,121,32,0,0,0,141,32,248,199,187,251,154,243,218,78,245,50,237,68,239,198,140,230,66,188,93,12,92,177,215,185,27,150,199,78,223,2,128,0,0,0,0]=[2968975047,3235157872,2549589750,2039259596,270621894,2561389113,357463097,3912249024]:=(aft_ev (wds_of rfl (by kernel_rfl)) _ (by kernel_rfl:evS [3475863124,1121757718,154817798,2053554283,3879383302,2737816431,2902700909,2662089721] [53,11,62,43,183,39,159,120,151,184,123,182,133,75,120,60,96,232,3,17,174,48,121,32,0,0,0,141,32,248,199,187,251,154,243,218,78,245,50,237,68,239,198,140,230,66,188,93,12,92,177,215,185,27,150,199,78,223,2,128,0,0,0,0]=[3788079219,2113400154,2394771952,4280672609,686205888,4118539978,1749729484,1250159303])).trans (by kernel_rfl)
theorem ev_out2:aftN [2968975047,3235157872,2549589750,2039259596,270621894,2561389113,357463097,3912249024] [0,0,0,0,0,0,0,0,0,0,0,0,0,0,0,0,0,0,0,0,0,0,0,0,0,0,0,0,0,0,0,0,0,0,0,0,0,0,0,0,0,0,0,0,0,0,0,0,0,0,0,0,0,0,0,0,0,0,0,0,0,0,3,216]=[1860794496,3043554523,1021108681,885287208,3797545257,3571892098,1187437561,224631559]:=(aft_ev (wds_of rfl (by kernel_rfl)) _ (by kernel_rfl:evS [2968975047,3235157872,2549589750,2039259596,270621894,2561389113,357463097,3912249024] [0,0,0,0,0,0,0,0,0,0,0,0,0,0,0,0,0,0,0,0,0,0,0,0,0,0,0,0,0,0,0,0,0,0,0,0,0,0,0,0,0,0,0,0,0,0,0,0,0,0,0,0,0,0,0,0,0,0,0,0,0,0,3,216]=[3186786745,4103363947,2766486227,3140994908,3526923363,1010502985,829974464,607349831])).trans (by kernel_rfl)
theorem sha_out:kyN tLab sAB pA pB=[110,233,120,128,181,104,244,219,60,220,225,201,52,196,105,40,226,89,241,41,212,230,191,130,70,198,219,249,13,99,155,7]:=by
 have e0:packN [tLab]++packN [sAB,pA,pB]=[11,0,0,0,98,105,108,108,101,116,32,116,97,108,107,32,0,0,0,57,195,115,180,25,57,165,87,25,42,237,43,16,128,40,228,73,110,76,124,250,74,236,225,186,153,164,236,44,206,224,65,32,0,0,0,66,44,142,122,98,39,215,188,161,53,11,62,43,183,39,159,120,151,184,123,182,133,75,120,60,96,232,3,17,174,48,121,32,0,0,0,141,32,248,199,187,251,154,243,218,78,245,50,237,68,239,198,140,230,66,188,93,12,92,177,215,185,27,150,199,78,223,2]:=by kernel_rfl
 exact(congrArg shaN e0).trans (sha3_lit (T:=[11,0,0,0,98,105,108,108,101,116,32,116,97,108,107,32,0,0,0,57,195,115,180,25,57,165,87,25,42,237,43,16,128,40,228,73,110,76,124,250,74,236,225,186,153,164,236,44,206,224,65,32,0,0,0,66,44,142,122,98,39,215,188,161,53,11,62,43,183,39,159,120,151,184,123,182,133,75,120,60,96,232,3,17,174,48,121,32,0,0,0,141,32,248,199,187,251,154,243,218,78,245,50,237,68,239,198,140,230,66,188,93,12,92,177,215,185,27,150,199,78,223,2,128,0,0,0,0,0,0,0,0,0,0,0,0,0,0,0,0,0,0,0,0,0,0,0,0,0,0,0,0,0,0,0,0,0,0,0,0,0,0,0,0,0,0,0,0,0,0,0,0,0,0,0,0,0,0,0,0,0,0,0,0,0,0,0,0,0,0,3,216]) (by kernel_rfl) (by kernel_rfl) (by kernel_rfl) (by kernel_rfl) (by kernel_rfl) ev_out0 ev_out1 ev_out2 (by kernel_rfl))
theorem ev_in0:aftN iv [11,0,0,0,98,105,108,108,101,116,32,116,97,108,107,32,0,0,0,57,195,115,180,25,57,165,87,25,42,237,43,16,128,40,228,73,110,76,124,250,74,236,225,186,153,164,236,44,206,224,65,32,0,0,0,141,32,248,199,187,251,154,243,218]=[1643982598,218603209,4212667872,1538785070,173788868,568721188,3666385675,2541906874]:=(aft_ev iv_wds _ (by kernel_rfl:evS iv [11,0,0,0,98,105,108,108,101,116,32,116,97,108,107,32,0,0,0,57,195,115,180,25,57,165,87,25,42,237,43,16,128,40,228,73,110,76,124,250,74,236,225,186,153,164,236,44,206,224,65,32,0,0,0,141,32,248,199,187,251,154,243,218]=[4159916191,1369436228,3198763630,3060271604,3108863045,2262865560,3137651040,1000447649])).trans (by kernel_rfl)
theorem ev_in1:aftN [1643982598,218603209,4212667872,1538785070,173788868,568721188,3666385675,2541906874] [78,245,50,237,68,239,198,140,230,66,188,93,12,92,177,215,185,27,150,199,78,223,2,32,0,0,0,66,44,142,122,98,39,215,188,161,53,11,62,43,183,39,159,120,151,184,123,182,133,75,120,60,96,232,3,17,174,48,121,128,0,0,0,0]=[738565517,1976324364,1999242391,3963232406,3593219794,708230244,1434243468,1983454254]:=(aft_ev (wds_of rfl (by kernel_rfl)) _ (by kernel_rfl:evS [1643982598,218603209,4212667872,1538785070,173788868,568721188,3666385675,2541906874] [78,245,50,237,68,239,198,140,230,66,188,93,12,92,177,215,185,27,150,199,78,223,2,32,0,0,0,66,44,142,122,98,39,215,188,161,53,11,62,43,183,39,159,120,151,184,123,182,133,75,120,60,96,232,3,17,174,48,121,128,0,0,0,0]=[3389550215,1757721155,2081541815,2424447336,3419430926,139509056,2062825089,3736514676])).trans (by kernel_rfl)
theorem ev_in2:aftN [738565517,1976324364,1999242391,3963232406,3593219794,708230244,1434243468,1983454254] [0,0,0,0,0,0,0,0,0,0,0,0,0,0,0,0,0,0,0,0,0,0,0,0,0,0,0,0,0,0,0,0,0,0,0,0,0,0,0,0,0,0,0,0,0,0,0,0,0,0,0,0,0,0,0,0,0,0,0,0,0,0,3,216]=[2233642282,3217374456,207373547,638454490,46231958,2931487808,1555305143,966837325]:=(aft_ev (wds_of rfl (by kernel_rfl)) _ (by kernel_rfl:evS [738565517,1976324364,1999242391,3963232406,3593219794,708230244,1434243468,1983454254] [0,0,0,0,0,0,0,0,0,0,0,0,0,0,0,0,0,0,0,0,0,0,0,0,0,0,0,0,0,0,0,0,0,0,0,0,0,0,0,0,0,0,0,0,0,0,0,0,0,0,0,0,0,0,0,0,0,0,0,0,0,0,3,216]=[1495076765,1241050092,2503098452,970189380,747979460,2223257564,121061675,3278350367])).trans (by kernel_rfl)
theorem sha_in:kyN tLab sAB pB pA=[133,34,173,42,191,197,60,248,12,92,68,235,38,14,10,218,2,193,113,150,174,186,244,64,92,180,18,183,57,160,196,77]:=by
 have e0:packN [tLab]++packN [sAB,pB,pA]=[11,0,0,0,98,105,108,108,101,116,32,116,97,108,107,32,0,0,0,57,195,115,180,25,57,165,87,25,42,237,43,16,128,40,228,73,110,76,124,250,74,236,225,186,153,164,236,44,206,224,65,32,0,0,0,141,32,248,199,187,251,154,243,218,78,245,50,237,68,239,198,140,230,66,188,93,12,92,177,215,185,27,150,199,78,223,2,32,0,0,0,66,44,142,122,98,39,215,188,161,53,11,62,43,183,39,159,120,151,184,123,182,133,75,120,60,96,232,3,17,174,48,121]:=by kernel_rfl
 exact(congrArg shaN e0).trans (sha3_lit (T:=[11,0,0,0,98,105,108,108,101,116,32,116,97,108,107,32,0,0,0,57,195,115,180,25,57,165,87,25,42,237,43,16,128,40,228,73,110,76,124,250,74,236,225,186,153,164,236,44,206,224,65,32,0,0,0,141,32,248,199,187,251,154,243,218,78,245,50,237,68,239,198,140,230,66,188,93,12,92,177,215,185,27,150,199,78,223,2,32,0,0,0,66,44,142,122,98,39,215,188,161,53,11,62,43,183,39,159,120,151,184,123,182,133,75,120,60,96,232,3,17,174,48,121,128,0,0,0,0,0,0,0,0,0,0,0,0,0,0,0,0,0,0,0,0,0,0,0,0,0,0,0,0,0,0,0,0,0,0,0,0,0,0,0,0,0,0,0,0,0,0,0,0,0,0,0,0,0,0,0,0,0,0,0,0,0,0,0,0,0,0,3,216]) (by kernel_rfl) (by kernel_rfl) (by kernel_rfl) (by kernel_rfl) (by kernel_rfl) ev_in0 ev_in1 ev_in2 (by kernel_rfl))
theorem out_ab:outN kA (pbN kB)=kyN tLab sAB pA pB:=by rw [outN,ss_ab,pb_a,pb_b]
theorem in_ab:inN kA (pbN kB)=kyN tLab sAB pB pA:=by rw [inN,ss_ab,pb_a,pb_b]
theorem out_ba:outN kB (pbN kA)=kyN tLab sAB pB pA:=by rw [outN,ss_ba,pb_a,pb_b]
theorem in_ba:inN kB (pbN kA)=kyN tLab sAB pA pB:=by rw [inN,ss_ba,pb_a,pb_b]
theorem wk_oi:outN kA (pbN kB)=inN kB (pbN kA):=out_ab.trans in_ba.symm
theorem wk_io:inN kA (pbN kB)=outN kB (pbN kA):=in_ab.trans out_ba.symm
theorem wk_rr:rootN kA (pbN kB)=rootN kB (pbN kA):=by rw [rootN,rootN,ss_ab,ss_ba,rowN_comm (pbN_ok kA) (pbN_ok kB)]
theorem wk_ne:outN kA (pbN kB)≠inN kA (pbN kB):=by rw [out_ab,in_ab,sha_out,sha_in];decide
theorem parts_cat {D Z:List Nat}(h1:D.length=16)(h2:Z.length=36):partsR (D++Z)=(D,Z,true):=by
 rw [partsR_ok (by rw [List.length_append,h1,h2]),List.take_append_of_le_length (by omega),List.take_of_length_le (by omega),←h1,List.drop_left]
theorem en_wakes:Enters Tryz.prog 35:=fun args w=>by simp [go_sem]
theorem wakes16 (Tg:TypeId)(fg:Nat×Nat)  (w0:World)(hg:w0.heap[0]? = some (.cells (cn .u32 kTab) Tg fg)) :
  Calls Tryz.prog 35 #[] w0 fun e w'=>e=.returned (.bool true)∧Below w0.heap.size w0 w':=by
 have MM:=MemS.start1 hg
 refine eF Tryz.func35 rfl Tryz.ntmps35 (by simp) fun ac (FF:Fr 120 ac [])=>?_
 refine wp_seq (rg_c FF MM [] 1 [] [] (fun _ _ FF1 MM1=>tN ?_))
 refine wp_seq (rg_c FF1 MM1 [(0,t_ (.agg (cn .u8 kA))),(0,t_ (.agg (cn .u8 kB))),(0,s_ 0 (.cells (cn .u8 (List.replicate 32 0)) 52)),(0,s_ 0 (.cells (cn .u8 (List.replicate 32 0)) 52)),(0,b_ 1),(0,b_ 0)] 3 [] [] (⟨(Eq.trans (show _=some (cn .u8 ([8,0,0,0,0,0,0,0,0,0,0,0,0,0,0,0,0,0,0,0,0,0,0,0,0,0,0,0,0,0,0,0]))by kernel_rfl) (congrArg some (Value.agg.inj rfl))),(Eq.trans (show _=some (cn .u8 ([16,0,0,0,0,0,0,0,0,0,0,0,0,0,0,0,0,0,0,0,0,0,0,0,0,0,0,0,0,0,0,0]))by kernel_rfl) (congrArg some (Value.agg.inj rfl))),(by kernel_rfl),fun ba=>⟨(by kernel_rfl),fun bb=>⟨rfl,((cZ _ _).trans (List.length_replicate ..)),((cZ _ _).trans kA_ok.1),(cn_one _ _),rfl,rfl,((cZ _ _).trans (List.length_replicate ..)),((cZ _ _).trans kB_ok.1),(cn_one _ _),rfl,fun _ _ FF2 MM2=>tN ?_⟩⟩⟩))
 refine wp_seq (rg_lay FF2 MM2 [lval (.agg (cn .u8 kA)),lval (.agg (cn .u8 kB)),lval (.agg (cn .u8 (pbN kB))),lval (.tuple #[.agg ((cn .u8 (outN kA (pbN kB)))++((cn .u8 (inN kA (pbN kB)))++(cn .u8 (rootN kA (pbN kB))))),iN 0]),lval (.tuple #[.agg ((cn .u8 (outN kA (pbN kB)))++((cn .u8 (inN kA (pbN kB)))++(cn .u8 (rootN kA (pbN kB))))),iN 0]),lval (.agg ((cn .u8 (outN kA (pbN kB)))++((cn .u8 (inN kA (pbN kB)))++(cn .u8 (rootN kA (pbN kB)))))),lval (iN 0),lnew (.cells ((cn .u8 (List.replicate 32 0))++(cn .u8 (List.replicate 32 0))++(cn .u8 (List.replicate 32 0))) 87) (fun b=>pT b) (some (8,.cells ((cn .u8 (outN kA (pbN kB)))++((cn .u8 (inN kA (pbN kB)))++(cn .u8 (rootN kA (pbN kB))))) 87)),lsto 7,lval (iN 0)] [b_ 1,b_ 0,t_ (.agg (cn .u8 (pbN kB))),u_ 1 (.tuple #[.agg ((cn .u8 (outN kA (pbN kB)))++((cn .u8 (inN kA (pbN kB)))++(cn .u8 (rootN kA (pbN kB))))),iN 0]),o_,o_,o_,o_,o_,o_] [2,1,0,3,4] [ba=ba,(cn .u8 kA).size=32,bb=bb,(cn .u8 kB).size=32,CallP Tryz.prog 31 [.agg (cn .u8 kB)] [] (.agg (cn .u8 (pbN kB))),CallP Tryz.prog 36 [.agg (cn .u8 kA),.agg (cn .u8 (pbN kB))] [(bb,.cells (cn .u8 kB) 52),(ba,.cells (cn .u8 kA) 52),(0,.cells (cn .u32 kTab) Tg fg)] (.tuple #[.agg ((cn .u8 (outN kA (pbN kB)))++((cn .u8 (inN kA (pbN kB)))++(cn .u8 (rootN kA (pbN kB))))),iN 0])] (fun nb=>[(4,iN 0),(3,pT (nb 7)),(2,pT bb),(1,pT ba),(0,.bool false)]) (fun nb=>[((nb 7),.cells ((cn .u8 (outN kA (pbN kB)))++((cn .u8 (inN kA (pbN kB)))++(cn .u8 (rootN kA (pbN kB))))) 87),(bb,.cells (cn .u8 kB) 52),(ba,.cells (cn .u8 kA) 52),(0,.cells (cn .u32 kTab) Tg fg)]) (by kernel_rfl) (by kernel_rfl) (by kernel_rfl) (by kernel_rfl) (fun _=>by kernel_rfl) (fun _=>by kernel_rfl) ⟨(fun a w=>⟨rfl,by simp [execOp,go_sem,show Tryz.zeroCells87=((cn .u8 (List.replicate 32 0))++(cn .u8 (List.replicate 32 0))++(cn .u8 (List.replicate 32 0)))by kernel_rfl]⟩),⟨⟨3,23,87,((cn .u8 (List.replicate 32 0))++(cn .u8 (List.replicate 32 0))++(cn .u8 (List.replicate 32 0))),((cn .u8 (outN kA (pbN kB)))++((cn .u8 (inN kA (pbN kB)))++(cn .u8 (rootN kA (pbN kB))))),5,rfl,rfl,rfl,by kernel_rfl,rfl,rfl,by kernel_rfl,rfl,rfl,(show((cn .u8 (List.replicate 32 0))++(cn .u8 (List.replicate 32 0))++(cn .u8 (List.replicate 32 0))).size=96 from(by simp [cZ])).trans (show((cn .u8 (outN kA (pbN kB)))++((cn .u8 (inN kA (pbN kB)))++(cn .u8 (rootN kA (pbN kB))))).size=96 from(by simp [cZ,(outN_ok kA (pbN kB)).1,(inN_ok kA (pbN kB)).1,(rootN_ok kA (pbN kB)).1])).symm,(one_app (cn_one _ _) (one_app (cn_one _ _) (cn_one _ _))),(show _=some 96 by kernel_rfl).trans (congrArg some (show((cn .u8 (outN kA (pbN kB)))++((cn .u8 (inN kA (pbN kB)))++(cn .u8 (rootN kA (pbN kB))))).size=96 from(by simp [cZ,(outN_ok kA (pbN kB)).1,(inN_ok kA (pbN kB)).1,(rootN_ok kA (pbN kB)).1])).symm)⟩,trivial⟩⟩ ⟨rfl,((cZ _ _).trans kA_ok.1),rfl,((cZ _ _).trans kB_ok.1),(cP en_cpub (cpub_any kB ⟨kB_ok.1,kB_ok.2⟩) _),⟨en_meet,fun w Hw=>meet_ok Tg fg kA (pbN kB) ⟨kA_ok.1,kA_ok.2⟩ ⟨(pbN_ok kB).1,(pbN_ok kB).2⟩ nz_ab w (Hw 2 _ rfl)⟩,trivial⟩ (fun nb ac3 wd3 FF3 MM3=>tN ?_))
 generalize nb 7=bp at *
 refine wp_seq (rg_lay FF3 MM3 [lval (.agg (cn .u8 kB)),lval (.agg (cn .u8 kA)),lval (.agg (cn .u8 (pbN kA))),lval (.tuple #[.agg ((cn .u8 (outN kB (pbN kA)))++((cn .u8 (inN kB (pbN kA)))++(cn .u8 (rootN kB (pbN kA))))),iN 0]),lval (.tuple #[.agg ((cn .u8 (outN kB (pbN kA)))++((cn .u8 (inN kB (pbN kA)))++(cn .u8 (rootN kB (pbN kA))))),iN 0]),lval (.agg ((cn .u8 (outN kB (pbN kA)))++((cn .u8 (inN kB (pbN kA)))++(cn .u8 (rootN kB (pbN kA)))))),lval (iN 0),lnew (.cells ((cn .u8 (List.replicate 32 0))++(cn .u8 (List.replicate 32 0))++(cn .u8 (List.replicate 32 0))) 87) (fun b=>pT b) (some (8,.cells ((cn .u8 (outN kB (pbN kA)))++((cn .u8 (inN kB (pbN kA)))++(cn .u8 (rootN kB (pbN kA))))) 87)),lsto 7,lval (iN 0)] [b_ 1,b_ 2,t_ (.agg (cn .u8 (pbN kA))),u_ 1 (.tuple #[.agg ((cn .u8 (outN kB (pbN kA)))++((cn .u8 (inN kB (pbN kA)))++(cn .u8 (rootN kB (pbN kA))))),iN 0]),o_,o_,o_,o_,o_,o_] [4,3,2,1,0,5,6] [bb=bb,(cn .u8 kB).size=32,ba=ba,(cn .u8 kA).size=32,CallP Tryz.prog 31 [.agg (cn .u8 kA)] [] (.agg (cn .u8 (pbN kA))),CallP Tryz.prog 36 [.agg (cn .u8 kB),.agg (cn .u8 (pbN kA))] [(bp,.cells ((cn .u8 (outN kA (pbN kB)))++((cn .u8 (inN kA (pbN kB)))++(cn .u8 (rootN kA (pbN kB))))) 87),(bb,.cells (cn .u8 kB) 52),(ba,.cells (cn .u8 kA) 52),(0,.cells (cn .u32 kTab) Tg fg)] (.tuple #[.agg ((cn .u8 (outN kB (pbN kA)))++((cn .u8 (inN kB (pbN kA)))++(cn .u8 (rootN kB (pbN kA))))),iN 0])] (fun nb=>[(6,iN 0),(5,pT (nb 7)),(4,iN 0),(3,pT bp),(2,pT bb),(1,pT ba),(0,.bool false)]) (fun nb=>[((nb 7),.cells ((cn .u8 (outN kB (pbN kA)))++((cn .u8 (inN kB (pbN kA)))++(cn .u8 (rootN kB (pbN kA))))) 87),(bp,.cells ((cn .u8 (outN kA (pbN kB)))++((cn .u8 (inN kA (pbN kB)))++(cn .u8 (rootN kA (pbN kB))))) 87),(bb,.cells (cn .u8 kB) 52),(ba,.cells (cn .u8 kA) 52),(0,.cells (cn .u32 kTab) Tg fg)]) (by kernel_rfl) (by kernel_rfl) (by kernel_rfl) (by kernel_rfl) (fun _=>by kernel_rfl) (fun _=>by kernel_rfl) ⟨(fun a w=>⟨rfl,by simp [execOp,go_sem,show Tryz.zeroCells87=((cn .u8 (List.replicate 32 0))++(cn .u8 (List.replicate 32 0))++(cn .u8 (List.replicate 32 0)))by kernel_rfl]⟩),⟨⟨5,30,87,((cn .u8 (List.replicate 32 0))++(cn .u8 (List.replicate 32 0))++(cn .u8 (List.replicate 32 0))),((cn .u8 (outN kB (pbN kA)))++((cn .u8 (inN kB (pbN kA)))++(cn .u8 (rootN kB (pbN kA))))),5,rfl,rfl,rfl,by kernel_rfl,rfl,rfl,by kernel_rfl,rfl,rfl,(show((cn .u8 (List.replicate 32 0))++(cn .u8 (List.replicate 32 0))++(cn .u8 (List.replicate 32 0))).size=96 from(by simp [cZ])).trans (show((cn .u8 (outN kB (pbN kA)))++((cn .u8 (inN kB (pbN kA)))++(cn .u8 (rootN kB (pbN kA))))).size=96 from(by simp [cZ,(outN_ok kB (pbN kA)).1,(inN_ok kB (pbN kA)).1,(rootN_ok kB (pbN kA)).1])).symm,(one_app (cn_one _ _) (one_app (cn_one _ _) (cn_one _ _))),(show _=some 96 by kernel_rfl).trans (congrArg some (show((cn .u8 (outN kB (pbN kA)))++((cn .u8 (inN kB (pbN kA)))++(cn .u8 (rootN kB (pbN kA))))).size=96 from(by simp [cZ,(outN_ok kB (pbN kA)).1,(inN_ok kB (pbN kA)).1,(rootN_ok kB (pbN kA)).1])).symm)⟩,trivial⟩⟩ ⟨rfl,((cZ _ _).trans kB_ok.1),rfl,((cZ _ _).trans kA_ok.1),(cP en_cpub (cpub_any kA ⟨kA_ok.1,kA_ok.2⟩) _),⟨en_meet,fun w Hw=>meet_ok Tg fg kB (pbN kA) ⟨kB_ok.1,kB_ok.2⟩ ⟨(pbN_ok kA).1,(pbN_ok kA).2⟩ nz_ba w (Hw 3 _ rfl)⟩,trivial⟩ (fun nb ac4 wd4 FF4 MM4=>tN ?_))
 generalize nb 7=bq at *
 refine wp_seq (rg_c FF4 MM4 [(0,b_ 3),(0,t_ (.agg (cn .u8 kZ))),(0,u_ 1 (.tuple #[.agg ((cn .u8 (List.replicate 32 0))++(cn .u8 (List.replicate 32 0))++(cn .u8 (List.replicate 32 0))),iN 2])),(3,s_ 0 (.cells ((cn .u8 (List.replicate 32 0))++(cn .u8 (List.replicate 32 0))++(cn .u8 (List.replicate 32 0))) 87)),(0,b_ 0)] 7 [8] [] (⟨rfl,((cZ _ _).trans kA_ok.1),(Eq.trans (show _=some (cn .u8 (List.replicate 32 0))by kernel_rfl) (congrArg some (Value.agg.inj rfl))),⟨en_meet,fun w Hw=>meet_weak Tg fg kA kZ ⟨kA_ok.1,kA_ok.2⟩ ⟨kZ_ok.1,kZ_ok.2⟩ cv_z w (Hw 4 _ rfl)⟩,(by kernel_rfl),fun bw=>⟨rfl,(by simp [cZ]),(by simp [cZ]),(one_app (one_app (cn_one _ _) (cn_one _ _)) (cn_one _ _)),rfl,fun _ _ FF5 MM5=>tN ?_⟩⟩))
 refine wp_seq (late_stand (N:=8) [(bp,.cells ((cn .u8 (outN kA (pbN kB)))++((cn .u8 (inN kA (pbN kB)))++(cn .u8 (rootN kA (pbN kB))))) 87)] (by kernel_rfl) (by kernel_rfl) MM5 fun wq6 MM7=>?_)
 refine lT FF5 (i:=1) (oi:=(opAt Tryz.f35 5 1)) (v:=(.agg ((cn .u8 (outN kA (pbN kB)))++((cn .u8 (inN kA (pbN kB)))++(cn .u8 (rootN kA (pbN kB))))))) (d:=40) (atL_has (is:=[2]) rfl MM7.hasL) (by kernel_rfl) (by kernel_rfl) (by kernel_rfl) (by kernel_rfl) (by kernel_rfl) (fun _ _ _ _ _ h=>h) (by kernel_rfl) (by decide) (by kernel_rfl) (loadRi (x:=(.tmp 3)) (k:=0) (m:=96) (by kernel_rfl) rfl Tryz.underlying87 rfl (by kernel_rfl) rfl (by simp [cZ,(outN_ok kA (pbN kB)).1,(inN_ok kA (pbN kB)).1,(rootN_ok kA (pbN kB)).1])) fun _ FF8=>?_
 refine lO (i:=0) (oi:=(opAt Tryz.f35 5 0)) (by kernel_rfl) (by kernel_rfl) ?_
 refine st_callE [40,8,6,5,4,3,2,1,0,39] FF8 (d:=39) (mk:=fun v=>v) en_pnew rfl rfl (pnew_E false none _) rfl (by kernel_rfl) (by decide) fun ac10 wd10 lv9 FF10 hr11=>?_
 obtain⟨k,k1,k2,k3,rfl,hB_k,hN_k⟩:=hr11
 have MM12:MemS (fun k=>k<w0.heap.size∧k≠0) w0 wd10 [(k,oC #[.bool false,.pointer none,.map (some k1),.map (some k2),.map (some k3),iN 0] 140),(k1,KM []),(k2,KM []),(k3,NM []),(bw,.cells ((cn .u8 (List.replicate 32 0))++(cn .u8 (List.replicate 32 0))++(cn .u8 (List.replicate 32 0))) 87),(bq,.cells ((cn .u8 (outN kB (pbN kA)))++((cn .u8 (inN kB (pbN kA)))++(cn .u8 (rootN kB (pbN kA))))) 87),(bp,.cells ((cn .u8 (outN kA (pbN kB)))++((cn .u8 (inN kA (pbN kB)))++(cn .u8 (rootN kA (pbN kB))))) 87),(bb,.cells (cn .u8 kB) 52),(ba,.cells (cn .u8 kA) 52),(0,.cells (cn .u32 kTab) Tg fg)] []:=MM7.addAll hB_k hN_k.1 hN_k.2.1 hN_k.2.2
 refine wpl_nil (onN_n ⟨fun _=>(atL_has (is:=[6]) rfl MM12.hasL),?_⟩)
 refine lO (i:=2) (oi:=(opAt Tryz.f35 5 2)) (by kernel_rfl) (by kernel_rfl) ?_
 refine rp_c 1 FF10 MM12 [(0,c_ (.tuple #[sB ((nmN (rootN kA (pbN kB)) 3)++(sealN (outN kA (pbN kB)) (nonN 3 3) [] (bodyN ([104,105])))),iN 0]) [(1,KM (shareK false 32 (inN kA (pbN kB)) (shareK false 32 (outN kA (pbN kB)) [] []) [])),(3,NM (noteP false (outN kA (pbN kB)) (nonN 3 3) (shareK false 32 (inN kA (pbN kB)) (shareK false 32 (outN kA (pbN kB)) [] []) []) (bodyN ([104,105])) []))])] 9 [41] [] (⟨(callU_B [0,1,2,3,9] en_say rfl rfl (fun w Hw=>say_real Tg fg (outN kA (pbN kB)) (inN kA (pbN kB)) (rootN kA (pbN kB)) ([104,105]) 3 ⟨(outN_ok kA (pbN kB)).1,(outN_ok kA (pbN kB)).2⟩ ⟨(inN_ok kA (pbN kB)).1,(inN_ok kA (pbN kB)).2⟩ ⟨(rootN_ok kA (pbN kB)).1,(rootN_ok kA (pbN kB)).2⟩ (by decide) (lit_lt (by kernel_rfl)) (by decide) w Hw (dN rfl (distinct_at MM12.distinct (is:=[0,1,2,3,9]) rfl rfl)))),fun _ _ FF13 MM13=>?_⟩)
 refine wpl_nil (onN_n ⟨fun _=>(atL_has (is:=[6]) rfl MM13.hasL),?_⟩)
 refine lT FF13 (i:=3) (oi:=(opAt Tryz.f35 5 3)) (v:=(.tuple #[sB ((nmN (rootN kA (pbN kB)) 3)++(sealN (outN kA (pbN kB)) (nonN 3 3) [] (bodyN ([104,105])))),iN 0])) (d:=38) (atL_has (is:=[6]) rfl MM13.hasL) (by kernel_rfl) (by kernel_rfl) (by kernel_rfl) (by kernel_rfl) (by kernel_rfl) (fun _ _ _ _ _ h=>h) (by kernel_rfl) (by decide) (by kernel_rfl) (mvV (x:=(.tmp 41)) (by kernel_rfl) rfl) fun _ FF14=>?_
 refine lT FF14 (i:=4) (oi:=(opAt Tryz.f35 5 4)) (v:=(sB ((nmN (rootN kA (pbN kB)) 3)++(sealN (outN kA (pbN kB)) (nonN 3 3) [] (bodyN ([104,105])))))) (d:=42) (atL_has (is:=[6]) rfl MM13.hasL) (by kernel_rfl) (by kernel_rfl) (by kernel_rfl) (by kernel_rfl) (by kernel_rfl) (fun _ _ _ _ _ h=>h) (by kernel_rfl) (by decide) (by kernel_rfl) (extV (x:=(.tmp 38)) (i:=0) (by kernel_rfl) rfl rfl) fun _ FF15=>?_
 refine lT FF15 (i:=5) (oi:=(opAt Tryz.f35 5 5)) (v:=(iN 0)) (d:=43) (atL_has (is:=[6]) rfl MM13.hasL) (by kernel_rfl) (by kernel_rfl) (by kernel_rfl) (by kernel_rfl) (by kernel_rfl) (fun _ _ _ _ _ h=>h) (by kernel_rfl) (by decide) (by kernel_rfl) (extV (x:=(.tmp 38)) (i:=1) (by kernel_rfl) rfl rfl) fun _ FF16=>?_
 refine lO (i:=6) (oi:=(opAt Tryz.f35 5 6)) (by kernel_rfl) (by kernel_rfl) ?_
 refine rp_c 1 FF16 MM13 [] 10 [43] [] (fun _ _ FF17 MM17=>?_)
 refine wpl_nil (onN_n ⟨fun _=>(atL_has (is:=[6]) rfl MM17.hasL),?_⟩)
 refine lO (i:=7) (oi:=(opAt Tryz.f35 5 7)) (by kernel_rfl) (by kernel_rfl) ?_
 refine rp_c 1 FF17 MM17 [] 11 [] [] (fun _ _ FF18 MM18=>?_)
 refine wpl_nil (onN_n ⟨fun _=>(atL_has (is:=[6]) rfl MM18.hasL),?_⟩)
 refine late_none (by kernel_rfl) (tN ?_)
 refine wp_seq (rg_c FF18 MM18 [(1,t_ (.tuple #[.agg (cn .u8 (nmN (rootN kA (pbN kB)) 3)),sB (sealN (outN kA (pbN kB)) (nonN 3 3) [] (bodyN [104,105])),.bool true])),(4,s_ 0 (.cells (cn .u8 (List.replicate 16 0)) 95)),(0,b_ 0)] 14 [] [9] (⟨(cP en_parts (fun w=>by have h0:=parts_any ((nmN (rootN kA (pbN kB)) 3)++(sealN (outN kA (pbN kB)) (nonN 3 3) [] (bodyN ([104,105])))) (app_lt (nmN_ok _ 3).2 (sealN_lt _ _ _ (bodyN_lt (lit_lt (by kernel_rfl)) (by decide)))) w;rw [parts_cat (nmN_ok (rootN kA (pbN kB)) 3).1 (by rw [sealN_len];rfl)]at h0;exact h0) _),(by kernel_rfl),fun bi=>⟨rfl,((cZ _ _).trans (List.length_replicate ..)),((cZ _ _).trans (nmN_ok (rootN kA (pbN kB)) 3).1),(cn_one _ _),rfl,fun _ _ FF19 MM19=>tN ?_⟩⟩))
 refine wp_seq (rg_c FF19 MM19 [(0,b_ 6),(1,t_ (.tuple #[sB ([104,105]),.bool true]))] 16 [] [12] (⟨rfl,(by simp [cZ,(outN_ok kB (pbN kA)).1,(inN_ok kB (pbN kA)).1,(rootN_ok kB (pbN kA)).1]),(cP en_hear (hear_nil (outN kB (pbN kA)) (inN kB (pbN kA)) (rootN kB (pbN kA)) [104,105] (sealN (outN kA (pbN kB)) (nonN 3 3) [] (bodyN [104,105])) 3 ⟨(outN_ok kB (pbN kA)).1,(outN_ok kB (pbN kA)).2⟩ ⟨(inN_ok kB (pbN kA)).1,(inN_ok kB (pbN kA)).2⟩ ⟨(rootN_ok kB (pbN kA)).1,(rootN_ok kB (pbN kA)).2⟩ (by decide) (lit_lt (by kernel_rfl)) (by decide) (sealN_lt _ _ _ (bodyN_lt (lit_lt (by kernel_rfl)) (by decide))) (by rw [sealN_len];decide) (by rw [←wk_oi];exact seal_opens _ _ [] _)) _),fun _ _ FF20 MM20=>tN ?_⟩))
 refine wp_seq (rg_dc 65 FF20 MM20 [(1,w_ 2),(2,w_ 2),(3,w_ 2),(3,l_ 7 (.agg (cn .u8 (outN kA (pbN kB))))),(1,l_ 6 (.agg (cn .u8 (inN kB (pbN kA))))),(0,f_ (.bool true)),(3,l_ 7 (.agg (cn .u8 (inN kA (pbN kB))))),(1,l_ 6 (.agg (cn .u8 (outN kB (pbN kA))))),(0,f_ (.bool true)),(3,l_ 7 (.agg (cn .u8 (rootN kA (pbN kB))))),(1,l_ 6 (.agg (cn .u8 (rootN kB (pbN kA))))),(0,f_ (.bool true)),(3,l_ 7 (.agg (cn .u8 (outN kA (pbN kB))))),(1,l_ 7 (.agg (cn .u8 (inN kA (pbN kB))))),(0,f_ (.bool true)),(3,w_ 2),(5,b_ 0),(1,l_ 6 (.agg (cn .u8 (rootN kB (pbN kA))))),(0,u_ 1 (.agg (cn .u8 (nmN (rootN kB (pbN kA)) 3)))),(0,f_ (.bool true)),(3,w_ 2),(5,t_ (sB ((List.replicate 16 0)++(sealN (List.replicate 32 0) (nonN 3 1) [] (List.replicate 20 0))))),(0,t_ (iN (((List.replicate 16 0)++(sealN (List.replicate 32 0) (nonN 3 1) [] (List.replicate 20 0))).length))),(0,w_ 2)] [] 6 [11] [4] (⟨rfl,rfl,rfl,rfl,(part_l (pW _)),((cZ _ _).trans (outN_ok kA (pbN kB)).1),rfl,(part_r 0 ((cZ _ _).trans (outN_ok kB (pbN kA)).1) rfl (part_l (pW _))),((cZ _ _).trans (inN_ok kB (pbN kA)).1),(eqA_ok (t:=52) (t':=52) (e:=5) (m:=32) (k:=.u8) (x:=(.tmp 68)) (y:=(.tmp 70)) (by kernel_rfl) Tryz.underlying52 Tryz.underlying5 (by kernel_rfl) (by kernel_rfl) (by kernel_rfl) rfl rfl (outN_ok kA (pbN kB)).1 (inN_ok kB (pbN kA)).1 (decide_eq_true wk_oi)),rfl,(part_r 0 ((cZ _ _).trans (outN_ok kA (pbN kB)).1) rfl (part_l (pW _))),((cZ _ _).trans (inN_ok kA (pbN kB)).1),rfl,(part_l (pW _)),((cZ _ _).trans (outN_ok kB (pbN kA)).1),(eqA_ok (t:=52) (t':=52) (e:=5) (m:=32) (k:=.u8) (x:=(.tmp 75)) (y:=(.tmp 77)) (by kernel_rfl) Tryz.underlying52 Tryz.underlying5 (by kernel_rfl) (by kernel_rfl) (by kernel_rfl) rfl rfl (inN_ok kA (pbN kB)).1 (outN_ok kB (pbN kA)).1 (decide_eq_true wk_io)),rfl,(part_r 32 ((cZ _ _).trans (outN_ok kA (pbN kB)).1) rfl (part_r 0 ((cZ _ _).trans (inN_ok kA (pbN kB)).1) rfl (pW _))),((cZ _ _).trans (rootN_ok kA (pbN kB)).1),rfl,(part_r 32 ((cZ _ _).trans (outN_ok kB (pbN kA)).1) rfl (part_r 0 ((cZ _ _).trans (inN_ok kB (pbN kA)).1) rfl (pW _))),((cZ _ _).trans (rootN_ok kB (pbN kA)).1),(eqA_ok (t:=52) (t':=52) (e:=5) (m:=32) (k:=.u8) (x:=(.tmp 82)) (y:=(.tmp 84)) (by kernel_rfl) Tryz.underlying52 Tryz.underlying5 (by kernel_rfl) (by kernel_rfl) (by kernel_rfl) rfl rfl (rootN_ok kA (pbN kB)).1 (rootN_ok kB (pbN kA)).1 (decide_eq_true wk_rr)),rfl,(part_l (pW _)),((cZ _ _).trans (outN_ok kA (pbN kB)).1),rfl,(part_r 0 ((cZ _ _).trans (outN_ok kA (pbN kB)).1) rfl (part_l (pW _))),((cZ _ _).trans (inN_ok kA (pbN kB)).1),(neqA_ok (t:=52) (t':=52) (e:=5) (m:=32) (k:=.u8) (x:=(.tmp 89)) (y:=(.tmp 91)) (by kernel_rfl) Tryz.underlying52 Tryz.underlying5 (by kernel_rfl) (by kernel_rfl) (by kernel_rfl) rfl rfl (outN_ok kA (pbN kB)).1 (inN_ok kA (pbN kB)).1 (decide_eq_true wk_ne)),rfl,rfl,((cZ _ _).trans (nmN_ok (rootN kA (pbN kB)) 3).1),rfl,(part_r 32 ((cZ _ _).trans (outN_ok kB (pbN kA)).1) rfl (part_r 0 ((cZ _ _).trans (inN_ok kB (pbN kA)).1) rfl (pW _))),((cZ _ _).trans (rootN_ok kB (pbN kA)).1),⟨en_tname,fun w Hw=>tname_any Tg fg (rootN kB (pbN kA)) 3 ⟨(rootN_ok kB (pbN kA)).1,(rootN_ok kB (pbN kA)).2⟩ (by decide) w (Hw 10 _ rfl)⟩,(eqA_ok (t:=95) (t':=95) (e:=5) (m:=16) (k:=.u8) (x:=(.tmp 102)) (y:=(.tmp 105)) (by kernel_rfl) Tryz.underlying95 Tryz.underlying5 (by kernel_rfl) (by kernel_rfl) (by kernel_rfl) rfl rfl (nmN_ok (rootN kA (pbN kB)) 3).1 (nmN_ok (rootN kB (pbN kA)) 3).1 (decide_eq_true (congrArg (nmN · 3) wk_rr))),rfl,(cP en_idle (idle_nil 1 (by decide)) _),(vI ((bs_size _).trans (by rw [List.length_append,sealN_len,List.length_replicate,List.length_replicate]))),rfl,fun _ _ FF21 MM21=>tN ?_⟩))
 refine wp_ret ?_
 repeat first | refine tR ?_ | refine iR ?_
 exact(ret_fr FF21 0 Tryz.results35 rfl ⟨rfl,MM21.below1 10 rfl hg⟩)
theorem tused_T (g:Nat)(X:List Nat)(u:Nat)(w0:World)(hg:w0.heap[g]? = some (TB X u)) :
  Calls Tryz.prog 18 #[pT g] w0 fun e w'=>e=.returned (iN u)∧Turn g (TB X u) w0 w':=by
 refine eF Tryz.func18 rfl Tryz.ntmps18 (by simp) fun ac (FF:Fr 9 ac [(0,pT g)])=>?_
 have MM:MemS (fun k=>k<w0.heap.size∧∀x∈(g,oC #[sB X,iN u] 119)::([]:Blks),x.1≠k) w0 w0 ((g,oC #[sB X,iN u] 119)::([]:Blks)) []:=MemS.startN (one_has hg) ⟨fun y hy=>(nomatch hy),trivial⟩
 refine wp_seq (rg_c FF MM [] 3 [] [] (fun _ _ FF1 MM1=>tN ?_))
 refine wp_seq ?_
 refine wp_seq (rg_c FF1 MM1 [(1,f_ (.bool false))] 3 [4] [] (⟨(ptrSome_ok (t:=32) (t':=32) (x:=(.tmp 3)) (y:=(.const (.pointer none))) (by kernel_rfl) rfl rfl Tryz.underlying32),fun _ _ FF2 MM2=>tN ?_⟩))
 refine wp_cond_false (FF2.ev 0 rfl) ?_
 refine wp_skip ?_
 refine tN ?_
 refine wp_seq (rg_c FF2 MM2 [(3,l_ 0 (iN u))] 3 [] [] (⟨rfl,rfl,fun _ _ FF3 MM3=>tN ?_⟩))
 refine wp_ret ?_
 repeat first | refine tR ?_ | refine iR ?_
 exact(ret_fr FF3 0 Tryz.results18 rfl ⟨rfl,MM3.turn (O:=[]) (fun i x hx=>by simp at hx) 0 rfl (fun x hx=>(nomatch hx))⟩)
theorem tused_any (g:Nat)(X:List Nat)(u:Nat)(w:World)(hg:w.heap[g]? = some (TB X u)):Calls Tryz.prog 18 #[pT g] w fun e w'=>e=.returned (iN u)∧Below w.heap.size w w':=(tused_T g X u w hg).mono fun _ _ ⟨h1,h2⟩=>⟨h1,turn_below hg h2⟩
theorem idle_any {t u:Nat}{X:List Nat}(r:Nat)(hr:r<18446744073709551616)(hX:∀i,X.getD i 0<256)(hu:u<4611686018427000000)(w0:World)(H:Has w0 [(t,oC #[sB X,iN u] 119)])(hD:Distinct [(t,oC #[sB X,iN u] 119)]) :
  Calls Tryz.prog 40 #[pT t,iW r] w0 fun e w'=>e=.returned (sB ((takN 16 X)++(sealN (takN 32 (X.drop 16)) (nonN 3 r) [] (List.replicate 20 0))))∧TurnB [(t,TB ((X.drop 16).drop 32) (u+16+32))] w0 w':=by
 refine eF Tryz.func40 rfl Tryz.ntmps40 (by simp) fun ac (FF:Fr 24 ac [(0,pT t),(1,iW r)])=>?_
 have MM:MemS (fun k=>k<w0.heap.size∧∀x∈[(t,oC #[sB X,iN u] 119)],x.1≠k) w0 w0 [(t,oC #[sB X,iN u] 119)] []:=MemS.startN H hD
 refine wp_seq (rg_c FF MM [(0,t_ (sB []))] 5 [] [] (⟨(by kernel_rfl),fun _ _ FF1 MM1=>tN ?_⟩))
 refine wp_seq (rg_c FF1 MM1 [(1,c_ (.agg (cn .u8 (takN 16 X))) [(0,oC #[sB (X.drop 16),iN (u+16)] 119)]),(0,s_ 0 (.cells (cn .u8 (List.replicate 16 0)) 95)),(0,b_ 0)] 6 [] [] (⟨(callU_turn en_tid (g:=t) (ob:=TB X u) rfl fun w hg=>by have h0:=tid_any t X u hX (by omega) w hg;exact h0),(by kernel_rfl),fun bi=>⟨rfl,((cZ _ _).trans (List.length_replicate ..)),((cZ _ _).trans (takN_len _ _)),(cn_one _ _),rfl,fun _ _ FF2 MM2=>tN ?_⟩⟩))
 refine wp_seq (rg_c FF2 MM2 [(1,c_ (.agg (cn .u8 (takN 32 (X.drop 16)))) [(1,oC #[sB ((X.drop 16).drop 32),iN ((u+16)+32)] 119)]),(1,t_ (.agg (cn .u8 (nonN 3 r)))),(0,t_ (sB (List.replicate 20 0))),(0,t_ (sB (sealN (takN 32 (X.drop 16)) (nonN 3 r) [] (List.replicate 20 0))))] 7 [] [1] (⟨(callU_turn en_tkey (g:=t) (ob:=TB (X.drop 16) (u+16)) rfl fun w hg=>by have h0:=tkey_any t (X.drop 16) (u+16) (drop_lt hX) (by omega) w hg;exact h0),(cP en_tnon (tnon_any r (by have:=hr;omega)) _),(cP en_repeat (repeat0_any 20 (by decide)) _),(cP en_Seal (seal_any (takN 32 (X.drop 16)) (nonN 3 r) ⟨(takN_len _ _),(takN_lt (drop_lt hX) 32)⟩ ⟨(nonN_len _ _),(nonN_lt _ _)⟩ [] (List.replicate 20 0) (lit_lt (by kernel_rfl)) (rep0_lt (by decide)) (by decide) (by rw [List.length_replicate];decide)) _),fun _ _ FF3 MM3=>tN ?_⟩))
 refine wp_seq (rg_c FF3 MM3 [(0,b_ 0),(1,t_ (.tuple #[sB ((takN 16 X)++(sealN (takN 32 (X.drop 16)) (nonN 3 r) [] (List.replicate 20 0))),iN 0]))] 6 [7] [] (⟨rfl,((cZ _ _).trans (takN_len _ _)),(cP en_request (fun w=>by have h0:=request_any (takN 16 X) (takN_len _ _) (takN_lt hX 16) (sealN (takN 32 (X.drop 16)) (nonN 3 r) [] (List.replicate 20 0)) w;rw [requestR_ok (by rw [sealN_len,List.length_replicate])]at h0;exact h0) _),fun _ _ FF4 MM4=>tN ?_⟩))
 refine wp_seq (rg_c FF4 MM4 [] 6 [] [] (fun _ _ FF5 MM5=>tN ?_))
 refine wp_ret ?_
 repeat first | refine tR ?_ | refine iR ?_
 exact(ret_fr FF5 0 Tryz.results40 rfl ⟨rfl,MM5.turnB [(t,oC #[sB ((X.drop 16).drop 32),iN ((u+16)+32)] 119)] H (List.forall_mem_cons.2 ⟨(List.mem_of_getElem? (i:=1) rfl),(fun _ h=>(nomatch h))⟩) (List.forall_mem_cons.2 ⟨.inr ⟨_,(List.mem_of_getElem? (i:=0) rfl),rfl⟩,(fun _ h=>(nomatch h))⟩)⟩)
def mO (A B:List Nat):List Nat:=if curveN A B=0 then List.replicate 32 0 else outN A B
def mJ (A B:List Nat):List Nat:=if curveN A B=0 then List.replicate 32 0 else inN A B
noncomputable def mR (A B:List Nat):List Nat:=if curveN A B=0 then List.replicate 32 0 else rootN A B
def mE (A B:List Nat):Nat:=if curveN A B=0 then 2 else 0
theorem zer_ok:BytesK 32 (List.replicate 32 0):=⟨List.length_replicate ..,rep0_lt⟩
theorem mO_ok (A B:List Nat):BytesK 32 (mO A B):=by unfold mO;split;exact zer_ok;exact outN_ok ..
theorem mJ_ok (A B:List Nat):BytesK 32 (mJ A B):=by unfold mJ;split;exact zer_ok;exact inN_ok ..
theorem mR_ok (A B:List Nat):BytesK 32 (mR A B):=by unfold mR;split;exact zer_ok;exact rootN_ok ..
theorem meet_all (Tg:TypeId)(fg:Nat×Nat)(A B:List Nat)(hA:BytesK 32 A)(hB:BytesK 32 B)(w0:World)(hg:w0.heap[0]? = some (.cells (cn .u32 kTab) Tg fg)) :
  Calls Tryz.prog 36 #[.agg (cn .u8 A),.agg (cn .u8 B)] w0 fun e w'=>e=.returned (.tuple #[.agg (cn .u8 (mO A B)++(cn .u8 (mJ A B)++cn .u8 (mR A B))),iN (mE A B)])∧Below w0.heap.size w0 w':=by
 by_cases hz:curveN A B=0
 ·have h0:=meet_weak Tg fg A B hA hB hz w0 hg
  rw [Array.append_assoc]at h0
  simp only [mO,mJ,mR,mE,if_pos hz]
  exact h0
 ·have h0:=meet_ok Tg fg A B hA hB hz w0 hg
  simp only [mO,mJ,mR,mE,if_neg hz]
  exact h0
theorem rmeet_all (A B:List Nat)(hA:BytesK 32 A)(hB:BytesK 32 B)(w0:World) :
  Calls Tryz.prog 37 #[.agg (cn .u8 A),.agg (cn .u8 B)] w0 fun e w'=>e=.returned (.tuple #[.agg (cn .u8 (mO A B)++(cn .u8 (mJ A B)++cn .u8 (mR A B))),iN (mE A B)])∧Below w0.heap.size w0 w':=by
 by_cases hz:curveN A B=0
 ·have h0:=rmeet_weak A B hA hB hz w0
  rw [Array.append_assoc]at h0
  simp only [mO,mJ,mR,mE,if_pos hz]
  exact h0
 ·have h0:=rmeet_ok A B hA hB hz w0
  rw [Array.append_assoc]at h0
  simp only [mO,mJ,mR,mE,if_neg hz]
  exact h0
set_option maxHeartbeats 1000000 in
theorem tells_any (Tg:TypeId)(fg:Nat×Nat)(A B R T:List Nat)(r:Nat)(hA:BytesK 32 A)(hB:BytesK 32 B)(hR:BytesK 32 R)(hr:r<18446744073709551616)(hT:∀i,T.getD i 0<256)(w0:World)(hg:w0.heap[0]? = some (.cells (cn .u32 kTab) Tg fg)) :
  Calls Tryz.prog 7 #[.agg ((cn .u8 A)++((cn .u8 B)++((cn .u8 R)++(#[iW r,sB T]:Array Value))))] w0 fun e w'=>e=.returned (.bool true)∧Below w0.heap.size w0 w':=by
 have MM:=MemS.start1 hg
 refine eF Tryz.func7 rfl Tryz.ntmps7 (by simp) fun ac (FF:Fr 99 ac [(0,.agg ((cn .u8 A)++((cn .u8 B)++((cn .u8 R)++(#[iW r,sB T]:Array Value)))))])=>?_
 refine wp_seq (rg_c FF MM [(0,s_ 0 (.cells ((cn .u8 A)++((cn .u8 B)++((cn .u8 R)++(#[iW r,sB T]:Array Value)))) 85))] 3 [] [0] (⟨(by kernel_rfl),fun bq=>fun _ _ FF1 MM1=>tN ?_⟩))
 refine wp_seq (rg_lay FF1 MM1 [lval (pT bq),lval (.agg (cn .u8 A)),lval (.pointer (some ⟨bq,32,none⟩)),lval (.agg (cn .u8 B)),lval (.pointer (some ⟨bq,64,none⟩)),lval (.agg (cn .u8 R)),lval (.pointer (some ⟨bq,96,none⟩)),lval (iW r),lval (.pointer (some ⟨bq,97,none⟩)),lval (sB T),lnew (.cells (cn .u8 (List.replicate 32 0)) 52) (fun b=>pT b) (some (13,.cells (cn .u8 A) 52)),lnew (.cells (cn .u8 (List.replicate 32 0)) 52) (fun b=>pT b) (some (14,.cells (cn .u8 B) 52)),lnew (.cells (cn .u8 (List.replicate 32 0)) 52) (fun b=>pT b) (some (15,.cells (cn .u8 R) 52)),lsto 10,lsto 11,lsto 12,lval (iW r),lval (sB T)] [o_,l_ 0 (.agg (cn .u8 A)),o_,l_ 0 (.agg (cn .u8 B)),o_,l_ 0 (.agg (cn .u8 R)),o_,l_ 0 (iW r),o_,l_ 0 (sB T),o_,o_,o_,o_,o_,o_,o_,o_] [2,3,4,5,6,7] [bq=bq,PartAt ((cn .u8 A)++((cn .u8 B)++((cn .u8 R)++(#[iW r,sB T]:Array Value)))) 0 (cn .u8 A),(cn .u8 A).size=32,bq=bq,PartAt ((cn .u8 A)++((cn .u8 B)++((cn .u8 R)++(#[iW r,sB T]:Array Value)))) 32 (cn .u8 B),(cn .u8 B).size=32,bq=bq,PartAt ((cn .u8 A)++((cn .u8 B)++((cn .u8 R)++(#[iW r,sB T]:Array Value)))) 64 (cn .u8 R),(cn .u8 R).size=32,bq=bq,((cn .u8 A)++((cn .u8 B)++((cn .u8 R)++(#[iW r,sB T]:Array Value))))[96]? = some (iW r),bq=bq,((cn .u8 A)++((cn .u8 B)++((cn .u8 R)++(#[iW r,sB T]:Array Value))))[97]? = some (sB T)] (fun nb=>[(7,sB T),(6,iW r),(5,pT (nb 12)),(4,pT (nb 11)),(3,pT (nb 10)),(2,.bool false)]) (fun nb=>[((nb 10),.cells (cn .u8 A) 52),((nb 11),.cells (cn .u8 B) 52),((nb 12),.cells (cn .u8 R) 52),(bq,.cells ((cn .u8 A)++((cn .u8 B)++((cn .u8 R)++(#[iW r,sB T]:Array Value)))) 85),(0,.cells (cn .u32 kTab) Tg fg)]) (by kernel_rfl) (by kernel_rfl) (by kernel_rfl) (by kernel_rfl) (fun _=>by kernel_rfl) (fun _=>by kernel_rfl) ⟨(fun a w=>⟨rfl,by simp [execOp,go_sem,cn]⟩),⟨(fun a w=>⟨rfl,by simp [execOp,go_sem,cn]⟩),⟨(fun a w=>⟨rfl,by simp [execOp,go_sem,cn]⟩),⟨⟨3,15,52,(cn .u8 (List.replicate 32 0)),(cn .u8 A),1,rfl,rfl,rfl,by kernel_rfl,rfl,rfl,by kernel_rfl,rfl,rfl,(show(cn .u8 (List.replicate 32 0)).size=32 from((cZ _ _).trans (List.length_replicate ..))).trans (show(cn .u8 A).size=32 from((cZ _ _).trans hA.1)).symm,(cn_one _ _),(show _=some 32 by kernel_rfl).trans (congrArg some (show(cn .u8 A).size=32 from((cZ _ _).trans hA.1)).symm)⟩,⟨⟨4,17,52,(cn .u8 (List.replicate 32 0)),(cn .u8 B),3,rfl,rfl,rfl,by kernel_rfl,rfl,rfl,by kernel_rfl,rfl,rfl,(show(cn .u8 (List.replicate 32 0)).size=32 from((cZ _ _).trans (List.length_replicate ..))).trans (show(cn .u8 B).size=32 from((cZ _ _).trans hB.1)).symm,(cn_one _ _),(show _=some 32 by kernel_rfl).trans (congrArg some (show(cn .u8 B).size=32 from((cZ _ _).trans hB.1)).symm)⟩,⟨⟨5,19,52,(cn .u8 (List.replicate 32 0)),(cn .u8 R),5,rfl,rfl,rfl,by kernel_rfl,rfl,rfl,by kernel_rfl,rfl,rfl,(show(cn .u8 (List.replicate 32 0)).size=32 from((cZ _ _).trans (List.length_replicate ..))).trans (show(cn .u8 R).size=32 from((cZ _ _).trans hR.1)).symm,(cn_one _ _),(show _=some 32 by kernel_rfl).trans (congrArg some (show(cn .u8 R).size=32 from((cZ _ _).trans hR.1)).symm)⟩,trivial⟩⟩⟩⟩⟩⟩ ⟨rfl,(part_l (pW _)),((cZ _ _).trans hA.1),rfl,(part_r 0 ((cZ _ _).trans hA.1) rfl (part_l (pW _))),((cZ _ _).trans hB.1),rfl,(part_r 32 ((cZ _ _).trans hA.1) rfl (part_r 0 ((cZ _ _).trans hB.1) rfl (part_l (pW _)))),((cZ _ _).trans hR.1),rfl,((cat_r 64 ((cZ _ _).trans hA.1) rfl).trans ((cat_r 32 ((cZ _ _).trans hB.1) rfl).trans ((cat_r 0 ((cZ _ _).trans hR.1) rfl).trans rfl))),rfl,((cat_r 65 ((cZ _ _).trans hA.1) rfl).trans ((cat_r 33 ((cZ _ _).trans hB.1) rfl).trans ((cat_r 1 ((cZ _ _).trans hR.1) rfl).trans rfl))),trivial⟩ (fun nb ac2 wd2 FF2 MM2=>tN ?_))
 generalize nb 10=ba at *
 generalize nb 11=bb at *
 generalize nb 12=bc at *
 refine wp_seq ?_
 by_cases a1:T.length>200
 ·skip
  refine wp_seq (rg_c FF2 MM2 [(1,t_ (iN T.length)),(0,w_ 2)] 8 [26] [] (⟨(vI (bs_size _)),a1,fun _ _ FF3 MM3=>tN ?_⟩))
  refine wp_cond_true (FF3.ev 0 rfl) ?_
  refine wp_seq (rg_c FF3 MM3 [(0,u_ 1 (.bool true))] 8 [] [] (⟨⟨en_wakes,fun w Hw=>wakes16 Tg fg w (Hw 4 _ rfl)⟩,fun _ _ FF4 MM4=>tN ?_⟩))
  refine wp_ret ?_
  repeat first | refine tR ?_ | refine iR ?_
  exact(ret_fr FF4 0 Tryz.results7 rfl ⟨rfl,MM4.below1 4 rfl hg⟩)
 ·skip
  refine wp_seq (rg_c FF2 MM2 [(1,t_ (iN T.length)),(0,w_ 3)] 8 [26] [] (⟨(vI (bs_size _)),a1,fun _ _ FF5 MM5=>tN ?_⟩))
  refine wp_cond_false (FF5.ev 0 rfl) ?_
  refine wp_skip ?_
  refine tN ?_
  refine wp_seq (rg_c FF5 MM5 [(0,b_ 0),(0,b_ 1),(0,u_ 1 (.tuple #[.agg ((cn .u8 (mO A B))++((cn .u8 (mJ A B))++(cn .u8 (mR A B)))),iN (mE A B)])),(3,s_ 0 (.cells ((cn .u8 (List.replicate 32 0))++(cn .u8 (List.replicate 32 0))++(cn .u8 (List.replicate 32 0))) 87)),(0,b_ 0)] 9 [9] [] (⟨rfl,((cZ _ _).trans hA.1),rfl,((cZ _ _).trans hB.1),⟨en_meet,fun w Hw=>meet_all Tg fg A B ⟨hA.1,hA.2⟩ ⟨hB.1,hB.2⟩ w (Hw 4 _ rfl)⟩,(by kernel_rfl),fun bp=>⟨rfl,(by simp [cZ]),(by simp [cZ,(mO_ok A B).1,(mJ_ok A B).1,(mR_ok A B).1]),(one_app (cn_one _ _) (one_app (cn_one _ _) (cn_one _ _))),rfl,fun _ _ FF6 MM6=>tN ?_⟩⟩))
  refine wp_seq (rg_c FF6 MM6 [(0,b_ 1),(0,b_ 2),(0,t_ (.tuple #[.agg ((cn .u8 (mO A B))++((cn .u8 (mJ A B))++(cn .u8 (mR A B)))),iN (mE A B)])),(3,s_ 0 (.cells ((cn .u8 (List.replicate 32 0))++(cn .u8 (List.replicate 32 0))++(cn .u8 (List.replicate 32 0))) 91)),(0,b_ 0)] 12 [] [] (⟨rfl,((cZ _ _).trans hA.1),rfl,((cZ _ _).trans hB.1),(cP en_rMeet (rmeet_all A B ⟨hA.1,hA.2⟩ ⟨hB.1,hB.2⟩) _),(by kernel_rfl),fun bs_=>⟨rfl,(by simp [cZ]),(by simp [cZ,(mO_ok A B).1,(mJ_ok A B).1,(mR_ok A B).1]),(one_app (cn_one _ _) (one_app (cn_one _ _) (cn_one _ _))),rfl,fun _ _ FF7 MM7=>tN ?_⟩⟩))
  refine wp_seq (wp_region_list ?_)
  refine rp_c 1 FF7 MM7 [] 41 [] [] (fun _ _ FF8 MM8=>?_)
  refine st_callE [11,10,9,8,7,6,5,4,3,2,41] FF8 (d:=41) (mk:=fun v=>v) en_tnew rfl rfl (tnew_any T _) rfl (by kernel_rfl) (by decide) fun ac10 wd10 lv9 FF10 hr11=>?_
  obtain⟨gt,rfl,hB_gt,hf_gt,hb_gt⟩:=hr11
  have MM12:=MM8.keep hB_gt
  have MM13:MemS (fun k=>k<w0.heap.size∧k≠0) w0 wd10 [(gt,oC #[sB T,iN 0] 119),(bs_,.cells ((cn .u8 (mO A B))++((cn .u8 (mJ A B))++(cn .u8 (mR A B)))) 91),(bp,.cells ((cn .u8 (mO A B))++((cn .u8 (mJ A B))++(cn .u8 (mR A B)))) 87),(ba,.cells (cn .u8 A) 52),(bb,.cells (cn .u8 B) 52),(bc,.cells (cn .u8 R) 52),(bq,.cells ((cn .u8 A)++((cn .u8 B)++((cn .u8 R)++(#[iW r,sB T]:Array Value)))) 85),(0,.cells (cn .u32 kTab) Tg fg)] []:=MM8.addFresh MM12 hb_gt hf_gt
  refine rp_c 5 FF10 MM13 [(1,t_ (aG #[sB T,iN 0]))] 14 [] [] (⟨(by kernel_rfl),fun by_=>fun _ _ FF14 MM14=>?_⟩)
  refine wpl_nil (tN ?_)
  refine wp_seq (late_stand (N:=55) [(bp,.cells ((cn .u8 (mO A B))++((cn .u8 (mJ A B))++(cn .u8 (mR A B)))) 87),(bs_,.cells ((cn .u8 (mO A B))++((cn .u8 (mJ A B))++(cn .u8 (mR A B)))) 91),(bc,.cells (cn .u8 R) 52)] (by kernel_rfl) (by kernel_rfl) MM14 fun wq15 MM16=>?_)
  refine lT FF14 (i:=0) (oi:=(opAt Tryz.f7 7 0)) (v:=(pT bp)) (d:=45) (atL_has (is:=[3,2,6]) rfl MM16.hasL) (by kernel_rfl) (by kernel_rfl) (by kernel_rfl) (by kernel_rfl) (by kernel_rfl) (fun _ _ _ _ _ h=>h) (by kernel_rfl) (by decide) (by kernel_rfl) (fldV (x:=(.tmp 8)) (t:=87) (k:=0) (cs:=[]) (by kernel_rfl) rfl (by kernel_rfl)) fun _ FF17=>?_
  refine lT FF17 (i:=1) (oi:=(opAt Tryz.f7 7 1)) (v:=(.agg (cn .u8 (mO A B)))) (d:=46) (atL_has (is:=[3,2,6]) rfl MM16.hasL) (by kernel_rfl) (by kernel_rfl) (by kernel_rfl) (by kernel_rfl) (by kernel_rfl) (fun _ _ _ _ _ h=>h) (by kernel_rfl) (by decide) (by kernel_rfl) (loadPi (x:=(.tmp 45)) (k:=0) (m:=32) (by kernel_rfl) rfl Tryz.underlying52 rfl (by kernel_rfl) rfl (part_l (pW _)) ((cZ _ _).trans (mO_ok A B).1)) fun _ FF18=>?_
  refine lT FF18 (i:=2) (oi:=(opAt Tryz.f7 7 2)) (v:=(pT bs_)) (d:=47) (atL_has (is:=[3,2,6]) rfl MM16.hasL) (by kernel_rfl) (by kernel_rfl) (by kernel_rfl) (by kernel_rfl) (by kernel_rfl) (fun _ _ _ _ _ h=>h) (by kernel_rfl) (by decide) (by kernel_rfl) (fldV (x:=(.tmp 10)) (t:=91) (k:=0) (cs:=[]) (by kernel_rfl) rfl (by kernel_rfl)) fun _ FF19=>?_
  refine lT FF19 (i:=3) (oi:=(opAt Tryz.f7 7 3)) (v:=(.agg (cn .u8 (mO A B)))) (d:=48) (atL_has (is:=[3,2,6]) rfl MM16.hasL) (by kernel_rfl) (by kernel_rfl) (by kernel_rfl) (by kernel_rfl) (by kernel_rfl) (fun _ _ _ _ _ h=>h) (by kernel_rfl) (by decide) (by kernel_rfl) (loadPi (x:=(.tmp 47)) (k:=1) (m:=32) (by kernel_rfl) rfl Tryz.underlying51 rfl (by kernel_rfl) rfl (part_l (pW _)) ((cZ _ _).trans (mO_ok A B).1)) fun _ FF20=>?_
  refine lO (i:=4) (oi:=(opAt Tryz.f7 7 4)) (by kernel_rfl) (by kernel_rfl) ?_
  refine rp_c 1 FF20 MM16 [(0,f_ (.bool true))] 14 [49] [] (⟨(eqA_ok (t:=52) (t':=52) (e:=5) (m:=32) (k:=.u8) (x:=(.tmp 46)) (y:=(.tmp 48)) (by kernel_rfl) Tryz.underlying52 Tryz.underlying5 (by kernel_rfl) (by kernel_rfl) (by kernel_rfl) rfl rfl (mO_ok A B).1 (mO_ok A B).1 (decide_eq_true rfl)),fun _ _ FF21 MM21=>?_⟩)
  refine wpl_nil (onN_n ⟨fun _=>(atL_has (is:=[3,2,6]) rfl MM21.hasL),?_⟩)
  refine lT FF21 (i:=5) (oi:=(opAt Tryz.f7 7 5)) (v:=(.bool true)) (d:=50) (atL_has (is:=[3,2,6]) rfl MM21.hasL) (by kernel_rfl) (by kernel_rfl) (by kernel_rfl) (by kernel_rfl) (by kernel_rfl) (fun _ _ _ _ _ h=>h) (by kernel_rfl) (by decide) (by kernel_rfl) (mvV (x:=(.tmp 49)) (by kernel_rfl) rfl) fun _ FF22=>?_
  refine lT FF22 (i:=6) (oi:=(opAt Tryz.f7 7 6)) (v:=(.pointer (some ⟨bp,32,none⟩))) (d:=51) (atL_has (is:=[3,2,6]) rfl MM21.hasL) (by kernel_rfl) (by kernel_rfl) (by kernel_rfl) (by kernel_rfl) (by kernel_rfl) (fun _ _ _ _ _ h=>h) (by kernel_rfl) (by decide) (by kernel_rfl) (fldV (x:=(.tmp 8)) (t:=87) (k:=1) (cs:=[]) (by kernel_rfl) rfl (by kernel_rfl)) fun _ FF23=>?_
  refine lT FF23 (i:=7) (oi:=(opAt Tryz.f7 7 7)) (v:=(.agg (cn .u8 (mJ A B)))) (d:=52) (atL_has (is:=[3,2,6]) rfl MM21.hasL) (by kernel_rfl) (by kernel_rfl) (by kernel_rfl) (by kernel_rfl) (by kernel_rfl) (fun _ _ _ _ _ h=>h) (by kernel_rfl) (by decide) (by kernel_rfl) (loadPi (x:=(.tmp 51)) (k:=0) (m:=32) (by kernel_rfl) rfl Tryz.underlying52 rfl (by kernel_rfl) rfl (part_r 0 ((cZ _ _).trans (mO_ok A B).1) rfl (part_l (pW _))) ((cZ _ _).trans (mJ_ok A B).1)) fun _ FF24=>?_
  refine lT FF24 (i:=8) (oi:=(opAt Tryz.f7 7 8)) (v:=(.pointer (some ⟨bs_,32,none⟩))) (d:=53) (atL_has (is:=[3,2,6]) rfl MM21.hasL) (by kernel_rfl) (by kernel_rfl) (by kernel_rfl) (by kernel_rfl) (by kernel_rfl) (fun _ _ _ _ _ h=>h) (by kernel_rfl) (by decide) (by kernel_rfl) (fldV (x:=(.tmp 10)) (t:=91) (k:=1) (cs:=[]) (by kernel_rfl) rfl (by kernel_rfl)) fun _ FF25=>?_
  refine lT FF25 (i:=9) (oi:=(opAt Tryz.f7 7 9)) (v:=(.agg (cn .u8 (mJ A B)))) (d:=54) (atL_has (is:=[3,2,6]) rfl MM21.hasL) (by kernel_rfl) (by kernel_rfl) (by kernel_rfl) (by kernel_rfl) (by kernel_rfl) (fun _ _ _ _ _ h=>h) (by kernel_rfl) (by decide) (by kernel_rfl) (loadPi (x:=(.tmp 53)) (k:=1) (m:=32) (by kernel_rfl) rfl Tryz.underlying51 rfl (by kernel_rfl) rfl (part_r 0 ((cZ _ _).trans (mO_ok A B).1) rfl (part_l (pW _))) ((cZ _ _).trans (mJ_ok A B).1)) fun _ FF26=>?_
  refine lO (i:=10) (oi:=(opAt Tryz.f7 7 10)) (by kernel_rfl) (by kernel_rfl) ?_
  refine rp_c 1 FF26 MM21 [(0,f_ (.bool true))] 51 [55] [49] (⟨(eqA_ok (t:=52) (t':=52) (e:=5) (m:=32) (k:=.u8) (x:=(.tmp 52)) (y:=(.tmp 54)) (by kernel_rfl) Tryz.underlying52 Tryz.underlying5 (by kernel_rfl) (by kernel_rfl) (by kernel_rfl) rfl rfl (mJ_ok A B).1 (mJ_ok A B).1 (decide_eq_true rfl)),fun _ _ FF27 MM27=>?_⟩)
  refine wpl_nil (onN_n ⟨fun _=>(atL_has (is:=[3,2,6]) rfl MM27.hasL),?_⟩)
  refine lO (i:=11) (oi:=(opAt Tryz.f7 7 11)) (by kernel_rfl) (by kernel_rfl) ?_
  refine rp_c 1 FF27 MM27 [] 14 [56] [] (fun _ _ FF28 MM28=>?_)
  refine wpl_nil (onN_n ⟨fun _=>(atL_has (is:=[3,2,6]) rfl MM28.hasL),?_⟩)
  refine lT FF28 (i:=12) (oi:=(opAt Tryz.f7 7 12)) (v:=(.bool true)) (d:=57) (atL_has (is:=[3,2,6]) rfl MM28.hasL) (by kernel_rfl) (by kernel_rfl) (by kernel_rfl) (by kernel_rfl) (by kernel_rfl) (fun _ _ _ _ _ h=>h) (by kernel_rfl) (by decide) (by kernel_rfl) (mvV (x:=(.tmp 56)) (by kernel_rfl) rfl) fun _ FF29=>?_
  refine lT FF29 (i:=13) (oi:=(opAt Tryz.f7 7 13)) (v:=(.pointer (some ⟨bp,64,none⟩))) (d:=58) (atL_has (is:=[3,2,6]) rfl MM28.hasL) (by kernel_rfl) (by kernel_rfl) (by kernel_rfl) (by kernel_rfl) (by kernel_rfl) (fun _ _ _ _ _ h=>h) (by kernel_rfl) (by decide) (by kernel_rfl) (fldV (x:=(.tmp 8)) (t:=87) (k:=2) (cs:=[]) (by kernel_rfl) rfl (by kernel_rfl)) fun _ FF30=>?_
  refine lT FF30 (i:=14) (oi:=(opAt Tryz.f7 7 14)) (v:=(.agg (cn .u8 (mR A B)))) (d:=59) (atL_has (is:=[3,2,6]) rfl MM28.hasL) (by kernel_rfl) (by kernel_rfl) (by kernel_rfl) (by kernel_rfl) (by kernel_rfl) (fun _ _ _ _ _ h=>h) (by kernel_rfl) (by decide) (by kernel_rfl) (loadPi (x:=(.tmp 58)) (k:=0) (m:=32) (by kernel_rfl) rfl Tryz.underlying52 rfl (by kernel_rfl) rfl (part_r 32 ((cZ _ _).trans (mO_ok A B).1) rfl (part_r 0 ((cZ _ _).trans (mJ_ok A B).1) rfl (pW _))) ((cZ _ _).trans (mR_ok A B).1)) fun _ FF31=>?_
  refine lT FF31 (i:=15) (oi:=(opAt Tryz.f7 7 15)) (v:=(.pointer (some ⟨bs_,64,none⟩))) (d:=60) (atL_has (is:=[3,2,6]) rfl MM28.hasL) (by kernel_rfl) (by kernel_rfl) (by kernel_rfl) (by kernel_rfl) (by kernel_rfl) (fun _ _ _ _ _ h=>h) (by kernel_rfl) (by decide) (by kernel_rfl) (fldV (x:=(.tmp 10)) (t:=91) (k:=2) (cs:=[]) (by kernel_rfl) rfl (by kernel_rfl)) fun _ FF32=>?_
  refine lT FF32 (i:=16) (oi:=(opAt Tryz.f7 7 16)) (v:=(.agg (cn .u8 (mR A B)))) (d:=61) (atL_has (is:=[3,2,6]) rfl MM28.hasL) (by kernel_rfl) (by kernel_rfl) (by kernel_rfl) (by kernel_rfl) (by kernel_rfl) (fun _ _ _ _ _ h=>h) (by kernel_rfl) (by decide) (by kernel_rfl) (loadPi (x:=(.tmp 60)) (k:=1) (m:=32) (by kernel_rfl) rfl Tryz.underlying51 rfl (by kernel_rfl) rfl (part_r 32 ((cZ _ _).trans (mO_ok A B).1) rfl (part_r 0 ((cZ _ _).trans (mJ_ok A B).1) rfl (pW _))) ((cZ _ _).trans (mR_ok A B).1)) fun _ FF33=>?_
  refine lO (i:=17) (oi:=(opAt Tryz.f7 7 17)) (by kernel_rfl) (by kernel_rfl) ?_
  refine rp_c 1 FF33 MM28 [(0,f_ (.bool true))] 58 [62] [56] (⟨(eqA_ok (t:=52) (t':=52) (e:=5) (m:=32) (k:=.u8) (x:=(.tmp 59)) (y:=(.tmp 61)) (by kernel_rfl) Tryz.underlying52 Tryz.underlying5 (by kernel_rfl) (by kernel_rfl) (by kernel_rfl) rfl rfl (mR_ok A B).1 (mR_ok A B).1 (decide_eq_true rfl)),fun _ _ FF34 MM34=>?_⟩)
  refine wpl_nil (onN_n ⟨fun _=>(atL_has (is:=[3,2,6]) rfl MM34.hasL),?_⟩)
  refine lO (i:=18) (oi:=(opAt Tryz.f7 7 18)) (by kernel_rfl) (by kernel_rfl) ?_
  refine rp_c 1 FF34 MM34 [] 14 [63] [] (fun _ _ FF35 MM35=>?_)
  refine wpl_nil (onN_n ⟨fun _=>(atL_has (is:=[3,2,6]) rfl MM35.hasL),?_⟩)
  refine lT FF35 (i:=19) (oi:=(opAt Tryz.f7 7 19)) (v:=(.bool true)) (d:=64) (atL_has (is:=[3,2,6]) rfl MM35.hasL) (by kernel_rfl) (by kernel_rfl) (by kernel_rfl) (by kernel_rfl) (by kernel_rfl) (fun _ _ _ _ _ h=>h) (by kernel_rfl) (by decide) (by kernel_rfl) (mvV (x:=(.tmp 63)) (by kernel_rfl) rfl) fun _ FF36=>?_
  refine lT FF36 (i:=20) (oi:=(opAt Tryz.f7 7 20)) (v:=(iN (mE A B))) (d:=65) (atL_has (is:=[3,2,6]) rfl MM35.hasL) (by kernel_rfl) (by kernel_rfl) (by kernel_rfl) (by kernel_rfl) (by kernel_rfl) (fun _ _ _ _ _ h=>h) (by kernel_rfl) (by decide) (by kernel_rfl) (mvV (x:=(.tmp 9)) (by kernel_rfl) rfl) fun _ FF37=>?_
  refine lT FF37 (i:=21) (oi:=(opAt Tryz.f7 7 21)) (v:=(iN (mE A B))) (d:=66) (atL_has (is:=[3,2,6]) rfl MM35.hasL) (by kernel_rfl) (by kernel_rfl) (by kernel_rfl) (by kernel_rfl) (by kernel_rfl) (fun _ _ _ _ _ h=>h) (by kernel_rfl) (by decide) (by kernel_rfl) (mvV (x:=(.tmp 11)) (by kernel_rfl) rfl) fun _ FF38=>?_
  refine lO (i:=22) (oi:=(opAt Tryz.f7 7 22)) (by kernel_rfl) (by kernel_rfl) ?_
  refine rp_c 1 FF38 MM35 [(0,w_ 2)] 14 [64,67] [11,9] (⟨rfl,fun _ _ FF39 MM39=>?_⟩)
  refine wpl_nil (onN_n ⟨fun _=>(atL_has (is:=[3,2,6]) rfl MM39.hasL),?_⟩)
  refine lO (i:=23) (oi:=(opAt Tryz.f7 7 23)) (by kernel_rfl) (by kernel_rfl) ?_
  refine rp_c 1 FF39 MM39 [] 14 [68] [] (fun _ _ FF40 MM40=>?_)
  refine wpl_nil (onN_n ⟨fun _=>(atL_has (is:=[3,2,6]) rfl MM40.hasL),?_⟩)
  refine lT FF40 (i:=24) (oi:=(opAt Tryz.f7 7 24)) (v:=(.bool true)) (d:=69) (atL_has (is:=[3,2,6]) rfl MM40.hasL) (by kernel_rfl) (by kernel_rfl) (by kernel_rfl) (by kernel_rfl) (by kernel_rfl) (fun _ _ _ _ _ h=>h) (by kernel_rfl) (by decide) (by kernel_rfl) (mvV (x:=(.tmp 68)) (by kernel_rfl) rfl) fun _ FF41=>?_
  refine lT FF41 (i:=25) (oi:=(opAt Tryz.f7 7 25)) (v:=(.agg (cn .u8 R))) (d:=70) (atL_has (is:=[3,2,6]) rfl MM40.hasL) (by kernel_rfl) (by kernel_rfl) (by kernel_rfl) (by kernel_rfl) (by kernel_rfl) (fun _ _ _ _ _ h=>h) (by kernel_rfl) (by decide) (by kernel_rfl) (loadRi (x:=(.tmp 5)) (k:=2) (m:=32) (by kernel_rfl) rfl Tryz.underlying52 rfl (by kernel_rfl) rfl ((cZ _ _).trans hR.1)) fun _ FF42=>?_
  refine lT FF42 (i:=26) (oi:=(opAt Tryz.f7 7 26)) (v:=(iW r)) (d:=71) (atL_has (is:=[3,2,6]) rfl MM40.hasL) (by kernel_rfl) (by kernel_rfl) (by kernel_rfl) (by kernel_rfl) (by kernel_rfl) (fun _ _ _ _ _ h=>h) (by kernel_rfl) (by decide) (by kernel_rfl) (mvV (x:=(.tmp 6)) (by kernel_rfl) rfl) fun _ FF43=>?_
  refine lT FF43 (i:=28) (oi:=(opAt Tryz.f7 7 28)) (v:=(.agg (cn .u8 R))) (d:=73) (atL_has (is:=[3,2,6]) rfl MM40.hasL) (by kernel_rfl) (by kernel_rfl) (by kernel_rfl) (by kernel_rfl) (by kernel_rfl) (fun _ _ _ _ _ h=>h) (by kernel_rfl) (by decide) (by kernel_rfl) (loadRi (x:=(.tmp 5)) (k:=2) (m:=32) (by kernel_rfl) rfl Tryz.underlying52 rfl (by kernel_rfl) rfl ((cZ _ _).trans hR.1)) fun _ FF44=>?_
  refine lT FF44 (i:=29) (oi:=(opAt Tryz.f7 7 29)) (v:=(iW r)) (d:=74) (atL_has (is:=[3,2,6]) rfl MM40.hasL) (by kernel_rfl) (by kernel_rfl) (by kernel_rfl) (by kernel_rfl) (by kernel_rfl) (fun _ _ _ _ _ h=>h) (by kernel_rfl) (by decide) (by kernel_rfl) (mvV (x:=(.tmp 6)) (by kernel_rfl) rfl) fun _ FF45=>?_
  refine lO (i:=27) (oi:=(opAt Tryz.f7 7 27)) (by kernel_rfl) (by kernel_rfl) ?_
  refine rp_c 1 FF45 MM40 [(0,u_ 1 (.agg (cn .u8 (nmN R r))))] 75 [] [71,70,68] (⟨⟨en_tname,fun w Hw=>tname_any Tg fg R r ⟨hR.1,hR.2⟩ (by have:=hr;omega) w (Hw 8 _ rfl)⟩,fun _ _ FF46 MM46=>?_⟩)
  refine wpl_nil (onN_n ⟨fun _=>(atL_has (is:=[3,2,6]) rfl MM46.hasL),?_⟩)
  refine lO (i:=30) (oi:=(opAt Tryz.f7 7 30)) (by kernel_rfl) (by kernel_rfl) ?_
  refine rp_c 1 FF46 MM46 [(0,t_ (.agg (cn .u8 (nmN R r))))] 73 [75] [] (⟨(cP en_rName (rname_any R r ⟨hR.1,hR.2⟩ (by have:=hr;omega)) _),fun _ _ FF47 MM47=>?_⟩)
  refine wpl_nil (onN_n ⟨fun _=>(atL_has (is:=[3,2,6]) rfl MM47.hasL),?_⟩)
  refine lO (i:=31) (oi:=(opAt Tryz.f7 7 31)) (by kernel_rfl) (by kernel_rfl) ?_
  refine rp_c 1 FF47 MM47 [(0,f_ (.bool true))] 70 [76] [] (⟨(eqA_ok (t:=95) (t':=95) (e:=5) (m:=16) (k:=.u8) (x:=(.tmp 72)) (y:=(.tmp 75)) (by kernel_rfl) Tryz.underlying95 Tryz.underlying5 (by kernel_rfl) (by kernel_rfl) (by kernel_rfl) rfl rfl (nmN_ok R r).1 (nmN_ok R r).1 (decide_eq_true rfl)),fun _ _ FF48 MM48=>?_⟩)
  refine wpl_nil (onN_n ⟨fun _=>(atL_has (is:=[3,2,6]) rfl MM48.hasL),?_⟩)
  refine lO (i:=32) (oi:=(opAt Tryz.f7 7 32)) (by kernel_rfl) (by kernel_rfl) ?_
  refine rp_c 1 FF48 MM48 [] 14 [77] [] (fun _ _ FF49 MM49=>?_)
  refine wpl_nil (onN_n ⟨fun _=>(atL_has (is:=[3,2,6]) rfl MM49.hasL),?_⟩)
  refine lT FF49 (i:=33) (oi:=(opAt Tryz.f7 7 33)) (v:=(.bool true)) (d:=78) (atL_has (is:=[3,2,6]) rfl MM49.hasL) (by kernel_rfl) (by kernel_rfl) (by kernel_rfl) (by kernel_rfl) (by kernel_rfl) (fun _ _ _ _ _ h=>h) (by kernel_rfl) (by decide) (by kernel_rfl) (mvV (x:=(.tmp 77)) (by kernel_rfl) rfl) fun _ FF50=>?_
  refine lT FF50 (i:=34) (oi:=(opAt Tryz.f7 7 34)) (v:=(pT gt)) (d:=79) (atL_has (is:=[3,2,6]) rfl MM49.hasL) (by kernel_rfl) (by kernel_rfl) (by kernel_rfl) (by kernel_rfl) (by kernel_rfl) (fun _ _ _ _ _ h=>h) (by kernel_rfl) (by decide) (by kernel_rfl) (mvV (x:=(.tmp 12)) (by kernel_rfl) rfl) fun _ FF51=>?_
  refine lT FF51 (i:=35) (oi:=(opAt Tryz.f7 7 35)) (v:=(iW r)) (d:=80) (atL_has (is:=[3,2,6]) rfl MM49.hasL) (by kernel_rfl) (by kernel_rfl) (by kernel_rfl) (by kernel_rfl) (by kernel_rfl) (fun _ _ _ _ _ h=>h) (by kernel_rfl) (by decide) (by kernel_rfl) (mvV (x:=(.tmp 6)) (by kernel_rfl) rfl) fun _ FF52=>?_
  refine lT FF52 (i:=37) (oi:=(opAt Tryz.f7 7 37)) (v:=(pT by_)) (d:=82) (atL_has (is:=[3,2,6]) rfl MM49.hasL) (by kernel_rfl) (by kernel_rfl) (by kernel_rfl) (by kernel_rfl) (by kernel_rfl) (fun _ _ _ _ _ h=>h) (by kernel_rfl) (by decide) (by kernel_rfl) (mvV (x:=(.tmp 13)) (by kernel_rfl) rfl) fun _ FF53=>?_
  refine lT FF53 (i:=38) (oi:=(opAt Tryz.f7 7 38)) (v:=(iW r)) (d:=83) (atL_has (is:=[3,2,6]) rfl MM49.hasL) (by kernel_rfl) (by kernel_rfl) (by kernel_rfl) (by kernel_rfl) (by kernel_rfl) (fun _ _ _ _ _ h=>h) (by kernel_rfl) (by decide) (by kernel_rfl) (mvV (x:=(.tmp 6)) (by kernel_rfl) rfl) fun _ FF54=>?_
  refine lO (i:=36) (oi:=(opAt Tryz.f7 7 36)) (by kernel_rfl) (by kernel_rfl) ?_
  refine rp_c 1 FF54 MM49 [(0,c_ (sB ((takN 16 T)++(sealN (takN 32 (T.drop 16)) (nonN 3 r) [] (List.replicate 20 0)))) [(1,oC #[sB ((T.drop 16).drop 32),iN (0+16+32)] 119)])] 84 [] [80,79,77,6] (⟨(callU_B [1] en_idle rfl rfl (fun w Hw=>idle_any r (by have:=hr;omega) hT (by decide) w Hw (dN rfl (distinct_at MM49.distinct (is:=[1]) rfl rfl)))),fun _ _ FF55 MM55=>?_⟩)
  refine wpl_nil (onN_n ⟨fun _=>(atL_has (is:=[3,2,6]) rfl MM55.hasL),?_⟩)
  refine lO (i:=39) (oi:=(opAt Tryz.f7 7 39)) (by kernel_rfl) (by kernel_rfl) ?_
  refine rp_c 1 FF55 MM55 [(0,c_ (sB ((takN 16 (T.drop 0))++(sealN (takN 32 (T.drop (0+16))) (nonN 3 r) [] (List.replicate 20 0)))) [(0,oC #[sB T,iN (0+16+32)] 36)])] 82 [84] [] (⟨(callU_B [0] en_rIdle rfl rfl (fun w Hw=>ridle_any r (by have:=hr;omega) hT w Hw (dN rfl (distinct_at MM55.distinct (is:=[0]) rfl rfl)))),fun _ _ FF56 MM56=>?_⟩)
  refine wpl_nil (onN_n ⟨fun _=>(atL_has (is:=[3,2,6]) rfl MM56.hasL),?_⟩)
  refine lO (i:=40) (oi:=(opAt Tryz.f7 7 40)) (by kernel_rfl) (by kernel_rfl) ?_
  refine rp_c 1 FF56 MM56 [(0,w_ 2)] 79 [85] [] (⟨rfl,fun _ _ FF57 MM57=>?_⟩)
  refine wpl_nil (onN_n ⟨fun _=>(atL_has (is:=[3,2,6]) rfl MM57.hasL),?_⟩)
  refine lO (i:=41) (oi:=(opAt Tryz.f7 7 41)) (by kernel_rfl) (by kernel_rfl) ?_
  refine rp_c 1 FF57 MM57 [] 14 [86] [] (fun _ _ FF58 MM58=>?_)
  refine wpl_nil (onN_n ⟨fun _=>(atL_has (is:=[3,2,6]) rfl MM58.hasL),?_⟩)
  refine lT FF58 (i:=42) (oi:=(opAt Tryz.f7 7 42)) (v:=(.bool true)) (d:=87) (atL_has (is:=[3,2,6]) rfl MM58.hasL) (by kernel_rfl) (by kernel_rfl) (by kernel_rfl) (by kernel_rfl) (by kernel_rfl) (fun _ _ _ _ _ h=>h) (by kernel_rfl) (by decide) (by kernel_rfl) (mvV (x:=(.tmp 86)) (by kernel_rfl) rfl) fun _ FF59=>?_
  refine lT FF59 (i:=43) (oi:=(opAt Tryz.f7 7 43)) (v:=(pT gt)) (d:=88) (atL_has (is:=[3,2,6]) rfl MM58.hasL) (by kernel_rfl) (by kernel_rfl) (by kernel_rfl) (by kernel_rfl) (by kernel_rfl) (fun _ _ _ _ _ h=>h) (by kernel_rfl) (by decide) (by kernel_rfl) (mvV (x:=(.tmp 12)) (by kernel_rfl) rfl) fun _ FF60=>?_
  refine lT FF60 (i:=45) (oi:=(opAt Tryz.f7 7 45)) (v:=(pT by_)) (d:=90) (atL_has (is:=[3,2,6]) rfl MM58.hasL) (by kernel_rfl) (by kernel_rfl) (by kernel_rfl) (by kernel_rfl) (by kernel_rfl) (fun _ _ _ _ _ h=>h) (by kernel_rfl) (by decide) (by kernel_rfl) (mvV (x:=(.tmp 13)) (by kernel_rfl) rfl) fun _ FF61=>?_
  refine lT FF61 (i:=46) (oi:=(opAt Tryz.f7 7 46)) (v:=(pT by_)) (d:=91) (atL_has (is:=[3,2,6]) rfl MM58.hasL) (by kernel_rfl) (by kernel_rfl) (by kernel_rfl) (by kernel_rfl) (by kernel_rfl) (fun _ _ _ _ _ h=>h) (by kernel_rfl) (by decide) (by kernel_rfl) (nilV (x:=(.tmp 90)) (by kernel_rfl) rfl) fun _ FF62=>?_
  refine lT FF62 (i:=47) (oi:=(opAt Tryz.f7 7 47)) (v:=(.pointer (some ⟨by_,1,none⟩))) (d:=92) (atL_has (is:=[3,2,6]) rfl MM58.hasL) (by kernel_rfl) (by kernel_rfl) (by kernel_rfl) (by kernel_rfl) (by kernel_rfl) (fun _ _ _ _ _ h=>h) (by kernel_rfl) (by decide) (by kernel_rfl) (fldV (x:=(.tmp 91)) (t:=36) (k:=1) (cs:=[]) (by kernel_rfl) rfl (by kernel_rfl)) fun _ FF63=>?_
  refine late_two (i:=44) (j:=48) (oi:=(opAt Tryz.f7 7 44)) (oj:=(opAt Tryz.f7 7 48)) (by kernel_rfl) (by kernel_rfl) (by kernel_rfl) ?_ ?_
  ·skip
   refine rp_c 1 FF63 MM58 [(0,u_ 1 (iN (0+16+32)))] 11 [92,87,89] [] (⟨⟨en_tused,fun w Hw=>tused_any gt ((T.drop 16).drop 32) (0+16+32) w (Hw 1 _ rfl)⟩,fun _ _ FF64 MM64=>?_⟩)
   refine wpl_nil (onN_n ⟨fun _=>(atL_has (is:=[3,2,6]) rfl MM64.hasL),?_⟩)
   refine lO (i:=48) (oi:=(opAt Tryz.f7 7 48)) (by kernel_rfl) (by kernel_rfl) ?_
   refine rp_c 1 FF64 MM64 [(0,l_ 0 (iN (0+16+32)))] 90 [93] [] (⟨rfl,rfl,fun _ _ FF65 MM65=>?_⟩)
   refine wpl_nil (onN_n ⟨fun _=>(atL_has (is:=[3,2,6]) rfl MM65.hasL),?_⟩)
   refine lO (i:=49) (oi:=(opAt Tryz.f7 7 49)) (by kernel_rfl) (by kernel_rfl) ?_
   refine rp_c 1 FF65 MM65 [(0,w_ 2)] 88 [94] [] (⟨rfl,fun _ _ FF66 MM66=>?_⟩)
   refine wpl_nil (onN_n ⟨fun _=>(atL_has (is:=[3,2,6]) rfl MM66.hasL),?_⟩)
   refine lO (i:=50) (oi:=(opAt Tryz.f7 7 50)) (by kernel_rfl) (by kernel_rfl) ?_
   refine rp_c 1 FF66 MM66 [] 11 [95] [] (fun _ _ FF67 MM67=>?_)
   refine wpl_nil (onN_n ⟨fun _=>(atL_has (is:=[3,2,6]) rfl MM67.hasL),?_⟩)
   refine lT FF67 (i:=51) (oi:=(opAt Tryz.f7 7 51)) (v:=(.bool true)) (d:=96) (atL_has (is:=[3,2,6]) rfl MM67.hasL) (by kernel_rfl) (by kernel_rfl) (by kernel_rfl) (by kernel_rfl) (by kernel_rfl) (fun _ _ _ _ _ h=>h) (by kernel_rfl) (by decide) (by kernel_rfl) (mvV (x:=(.tmp 95)) (by kernel_rfl) rfl) fun _ FF68=>?_
   refine lO (i:=52) (oi:=(opAt Tryz.f7 7 52)) (by kernel_rfl) (by kernel_rfl) ?_
   refine rp_c 1 FF68 MM67 [(0,u_ 1 (.bool true))] 98 [] [95] (⟨⟨en_wakes,fun w Hw=>wakes16 Tg fg w (Hw 8 _ rfl)⟩,fun _ _ FF69 MM69=>?_⟩)
   refine wpl_nil (onN_n ⟨fun _=>(atL_has (is:=[3,2,6]) rfl MM69.hasL),?_⟩)
   refine lO (i:=53) (oi:=(opAt Tryz.f7 7 53)) (by kernel_rfl) (by kernel_rfl) ?_
   refine rp_c 1 FF69 MM69 [] 11 [98] [] (fun _ _ FF70 MM70=>?_)
   refine wpl_nil (onN_n ⟨fun _=>(atL_has (is:=[3,2,6]) rfl MM70.hasL),?_⟩)
   refine lO (i:=54) (oi:=(opAt Tryz.f7 7 54)) (by kernel_rfl) (by kernel_rfl) ?_
   refine rp_c 1 FF70 MM70 [] 11 [] [] (fun _ _ FF71 MM71=>?_)
   refine wpl_nil (onN_n ⟨fun _=>(atL_has (is:=[3,2,6]) rfl MM71.hasL),?_⟩)
   refine late_none (by kernel_rfl) (tN ?_)
   refine wp_ret ?_
   repeat first | refine tR ?_ | refine iR ?_
   exact(ret_fr FF71 0 Tryz.results7 rfl ⟨rfl,MM71.below1 8 rfl hg⟩)
  ·skip
   refine rp_c 1 FF63 MM58 [(0,l_ 0 (iN (0+16+32)))] 11 [88,87,93] [] (⟨rfl,rfl,fun _ _ FF72 MM72=>?_⟩)
   refine wpl_nil (onN_n ⟨fun _=>(atL_has (is:=[3,2,6]) rfl MM72.hasL),?_⟩)
   refine lO (i:=44) (oi:=(opAt Tryz.f7 7 44)) (by kernel_rfl) (by kernel_rfl) ?_
   refine rp_c 1 FF72 MM72 [(0,u_ 1 (iN (0+16+32)))] 94 [] [88] (⟨⟨en_tused,fun w Hw=>tused_any gt ((T.drop 16).drop 32) (0+16+32) w (Hw 1 _ rfl)⟩,fun _ _ FF73 MM73=>?_⟩)
   refine wpl_nil (onN_n ⟨fun _=>(atL_has (is:=[3,2,6]) rfl MM73.hasL),?_⟩)
   refine lO (i:=49) (oi:=(opAt Tryz.f7 7 49)) (by kernel_rfl) (by kernel_rfl) ?_
   refine rp_c 1 FF73 MM73 [(0,w_ 2)] 88 [94] [] (⟨rfl,fun _ _ FF74 MM74=>?_⟩)
   refine wpl_nil (onN_n ⟨fun _=>(atL_has (is:=[3,2,6]) rfl MM74.hasL),?_⟩)
   refine lO (i:=50) (oi:=(opAt Tryz.f7 7 50)) (by kernel_rfl) (by kernel_rfl) ?_
   refine rp_c 1 FF74 MM74 [] 11 [95] [] (fun _ _ FF75 MM75=>?_)
   refine wpl_nil (onN_n ⟨fun _=>(atL_has (is:=[3,2,6]) rfl MM75.hasL),?_⟩)
   refine lT FF75 (i:=51) (oi:=(opAt Tryz.f7 7 51)) (v:=(.bool true)) (d:=96) (atL_has (is:=[3,2,6]) rfl MM75.hasL) (by kernel_rfl) (by kernel_rfl) (by kernel_rfl) (by kernel_rfl) (by kernel_rfl) (fun _ _ _ _ _ h=>h) (by kernel_rfl) (by decide) (by kernel_rfl) (mvV (x:=(.tmp 95)) (by kernel_rfl) rfl) fun _ FF76=>?_
   refine lO (i:=52) (oi:=(opAt Tryz.f7 7 52)) (by kernel_rfl) (by kernel_rfl) ?_
   refine rp_c 1 FF76 MM75 [(0,u_ 1 (.bool true))] 98 [] [95] (⟨⟨en_wakes,fun w Hw=>wakes16 Tg fg w (Hw 8 _ rfl)⟩,fun _ _ FF77 MM77=>?_⟩)
   refine wpl_nil (onN_n ⟨fun _=>(atL_has (is:=[3,2,6]) rfl MM77.hasL),?_⟩)
   refine lO (i:=53) (oi:=(opAt Tryz.f7 7 53)) (by kernel_rfl) (by kernel_rfl) ?_
   refine rp_c 1 FF77 MM77 [] 11 [98] [] (fun _ _ FF78 MM78=>?_)
   refine wpl_nil (onN_n ⟨fun _=>(atL_has (is:=[3,2,6]) rfl MM78.hasL),?_⟩)
   refine lO (i:=54) (oi:=(opAt Tryz.f7 7 54)) (by kernel_rfl) (by kernel_rfl) ?_
   refine rp_c 1 FF78 MM78 [] 11 [] [] (fun _ _ FF79 MM79=>?_)
   refine wpl_nil (onN_n ⟨fun _=>(atL_has (is:=[3,2,6]) rfl MM79.hasL),?_⟩)
   refine late_none (by kernel_rfl) (tN ?_)
   refine wp_ret ?_
   repeat first | refine tR ?_ | refine iR ?_
   exact(ret_fr FF79 0 Tryz.results7 rfl ⟨rfl,MM79.below1 8 rfl hg⟩)
theorem laid_mem {P:Program}{W:World}:∀(laid:List (String×DataW Unit)) (ps:List MemPlace),DataW.LaidVars P W laid ps→∀x∈laid,∃g t cs fuel p,P.globalNamed x.1=some g∧(P.globals[g]?).map (·.type)=some t∧W.var? P x.1=some cs∧DataW.trod (fun _=>()) P W 0 (fun _=>true) false fuel t cs.toList=some (x.2,p)
 | [],_,_,_,hx=>by cases hx
 | (n,d)::r,ps,h,x,hx=>by
  obtain⟨g,t,cs,fuel,p,q,h1,h2,h3,h4,h5,_⟩:=h
  rcases List.mem_cons.1 hx with rfl | hx
  ·exact⟨g,t,cs,fuel,p,h1,h2,h3,h4⟩
  ·exact laid_mem r q h5 x hx
theorem tab_of {P:Program}{W:World}{laid:List (String×DataW Unit)}{n:String}{D:DataW Unit}{g:Nat}{t e:TypeId}{m:Nat}{k:IntKind}{K:List Nat}(h:laidMetH P laid W)(hH:(laid.all fun x=>x.2.handleName?.isNone)=true)(hx:(n,D)∈laid)
  (hg:P.globalNamed n=some g) (ht:(P.globals[g]?).map (·.type)=some t) (hu:P.underlying t=some (.array m e)) (he:P.underlying e=some (.int k)) (hc:P.cellsOf e=1) (hct:P.cellsOf t=m) (hD:D=.agg (K.map fun(x:Nat)=>.lit (.int k (x:Int)))) (hK:K.length=m) :
  ∃T fr,W.heap[g]? = some (.cells (cn k K) T fr):=by
 rw [MakeChecks.laidMetH_plain _ _ _ hH]at h
 obtain⟨ps,hl,_⟩:=h
 obtain⟨g',t',cs,fuel,p,h1,h2,h3,h4⟩:=laid_mem laid ps hl _ hx
 obtain rfl:=Option.some.inj (hg.symm.trans h1)
 obtain rfl:=Option.some.inj (ht.symm.trans h2)
 have hb:∃T fr,W.heap[g]? = some (.cells cs T fr):=by
  simp only [World.var?,hg,Option.bind_some]at h3
  split at h3
  ·rename_i c T fr hb
   cases h3
   exact⟨T,fr,hb⟩
  ·cases h3
 obtain⟨T,fr,hb⟩:=hb
 refine⟨T,fr,?_⟩
 rw [hb]
 obtain⟨xs,m1,_,hx1,hlen,hn,hel⟩:=DataW.trod_array hu h4
 have hx2:D=.agg (xs.map fun x=>x.1):=(Prod.mk.inj hx1).1
 rw [hD]at hx2
 have hx3:(K.map fun(x:Nat)=>(DataW.lit (.int k (x:Int)):DataW Unit))=xs.map fun x=>x.1:=by injection hx2
 have hcs:cs=cn k K:=by
  refine Array.ext_getElem? fun i=>?_
  rcases Nat.lt_or_ge i m with hi | hi
  ·have e1:=hel i hi
   have e2:xs[i]? = some (xs[i]'(by omega)):=by simp
   rw [e2,hc]at e1
   obtain⟨z,e3,e4,_⟩:=DataW.trod_int he e1
   have e5:=congrArg (fun l=>l[i]?) hx3
   simp only [List.getElem?_map,e2,e4,List.getElem?_eq_getElem (show i<K.length by omega),Option.map_some,Option.some.injEq,DataW.lit.injEq,Lit.int.injEq]at e5
   have e6:=congrArg (fun l=>l[0]?) e3
   rw [Nat.mul_one]at e6
   have e7:cs[i]? = some (.int k z):=by simpa using e6
   rw [e7,cn_get k K i (by omega),←e5.2]
   simp [show i<K.length by omega]
  ·rw [Array.getElem?_eq_none (by rw [←Array.length_toList,hlen,hct];exact hi),Array.getElem?_eq_none (by rw [cZ,hK];exact hi)]
 rw [hcs]
end Go.Proofs.YtdokjecjiifciaaGreatDoor
