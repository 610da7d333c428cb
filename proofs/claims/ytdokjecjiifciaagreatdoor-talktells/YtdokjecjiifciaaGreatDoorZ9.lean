import Derived.Test.YtdokjecjiifciaaGreatDoorZ8
import Derived.Test.YtdokjecjiifciaaGreatDoorZ4
import Derived.Test.YtdokjecjiifciaaGreatDoorZ3
import Derived.Test.YtdokjecjiifciaaGreatDoorZ6
namespace Go.Proofs.YtdokjecjiifciaaGreatDoor
open Go.RowKit
set_option maxRecDepth 100000
theorem en_rpack:Enters Tryz.prog 112:=fun args w=>by simp [go_sem]
theorem en_rdky:Enters Tryz.prog 72:=fun args w=>by simp [go_sem]
theorem en_rdid:Enters Tryz.prog 75:=fun args w=>by simp [go_sem]
theorem en_rround:Enters Tryz.prog 76:=fun args w=>by simp [go_sem]
theorem en_rnonce:Enters Tryz.prog 58:=fun args w=>by simp [go_sem]
theorem rpack_some (Ps:List (List Nat))(hP:∀X∈Ps,∀i,X.getD i 0<256)(hl:(packN Ps).length≤140737488355328)(pb off cap T9:Nat)(fr:Nat×Nat)(cs:Array Value)(hp0:∀j,j<Ps.length→cs[off+j]? = some (sB (Ps.getD j [])))(w0:World)(hb:w0.heap[pb]? = some (.cells cs T9 fr)) :
  Calls Tryz.prog 112 #[.slice (some ⟨pb,off,none⟩) Ps.length cap] w0 fun e w'=>e=.returned (sB (packN Ps))∧Below w0.heap.size w0 w':=by
 have MM:=MemS.start1 hb
 refine eF Tryz.func112 rfl Tryz.ntmps112 (by simp) fun ac (FF:Fr 38 ac [(0,.slice (some ⟨pb,off,none⟩) Ps.length cap)])=>?_
 refine wp_seq (rg_c FF MM [(0,t_ (sB []))] 3 [] [] (⟨(by kernel_rfl),fun _ _ FF1 MM1=>tN ?_⟩))
 refine wp_seq (rg_c FF1 MM1 [(0,t_ (sB []))] 4 [] [] (⟨(by kernel_rfl),fun _ _ FF2 MM2=>tN ?_⟩))
 refine wp_seq ?_
 refine wp_seq (rg_c FF2 MM2 [] 5 [] [] (fun _ _ FF3 MM3=>tN ?_))
 refine wp_for2 (fun a' w'=>∃i:Nat,i≤Ps.length∧Fr 38 a' [(4,iN i),(3,sB (packN (Ps.take i))),(2,sB []),(0,.slice (some ⟨pb,off,none⟩) Ps.length cap)]∧MemS (fun k=>k<w0.heap.size∧k≠pb) w0 w' [(pb,.cells cs T9 fr)] []) (fun a' _=>(Ps.length-cnt 4 a').toNat) ⟨0,Nat.zero_le _,FF3.pick [0,1,2,3],MM3⟩ ?_
 rintro ac4 wd4 ⟨i,hi,FF4,MM4⟩
 have hc:=cnt_of (FF4.get 0 rfl)
 refine rg_c FF4 MM4 [] 5 [9] [] (fun _ _ FF5 MM5=>?_)
 by_cases hlt:i<Ps.length
 ·skip
  refine tN (.inl ⟨(FF5.ev 0 rfl).trans (dec_t hlt),?_⟩)
  have hXl:=getD_lt hP hlt
  have hpl:=packN_len Ps
  have hle:=packN_le Ps (i+1)
  rw [packN_take Ps i hlt]at hle
  simp only [List.length_append,leN_len]at hle
  refine wp_seq (rg_c FF5 MM5 [(3,l_ 0 (sB (Ps.getD i []))),(0,t_ (iN ((Ps.getD i []).length)))] 6 [] [] (⟨by omega,rfl,(hp0 i hlt),(vI (bs_size _)),fun _ _ FF6 MM6=>tN ?_⟩))
  refine rg_draw FF6 MM6 [.inl (sB (packN (Ps.take i))),.inl (iN ((Ps.getD i []).length)),.inl (iB (((Ps.getD i []).length)%256)),.inl (iN ((Ps.getD i []).length)),.inl (iN (((Ps.getD i []).length)/256)),.inl (iB ((((Ps.getD i []).length)/256)%256)),.inl (iN ((Ps.getD i []).length)),.inl (iN (((Ps.getD i []).length)/65536)),.inl (iB ((((Ps.getD i []).length)/65536)%256)),.inl (iN ((Ps.getD i []).length)),.inl (iN (((Ps.getD i []).length)/16777216)),.inl (iB ((((Ps.getD i []).length)/16777216)%256)),.inr (.cells (cn .u8 ([(Ps.getD i []).length%256,(Ps.getD i []).length/256%256,(Ps.getD i []).length/65536%256,(Ps.getD i []).length/16777216%256])) 5,fun b=>.slice (some ⟨b,0,none⟩) 4 4),.inl (sB (leN 4 (Ps.getD i []).length)),.inl (.slice (some ⟨pb,off,none⟩) Ps.length cap),.inl (iN i),.inl (.pointer (some ⟨pb,off+i,none⟩)),.inl (sB (Ps.getD i [])),.inl (sB ((leN 4 (Ps.getD i []).length)++(Ps.getD i []))),.inl (sB (packN (Ps.take (i+1))))] [] [o_,o_,o_,o_,o_,o_,o_,o_,o_,o_,o_,o_,o_,l_ 0 (sB (leN 4 (Ps.getD i []).length)),o_,o_,o_,l_ 0 (sB (Ps.getD i [])),t_ (sB ((leN 4 (Ps.getD i []).length)++(Ps.getD i []))),t_ (sB (packN (Ps.take (i+1))))] [o_] [5,4,3,2,0] (fun nb=>[8≤64,16≤64,24≤64,(nb 12)=(nb 12),StrAt (cn .u8 ([(Ps.getD i []).length%256,(Ps.getD i []).length/256%256,(Ps.getD i []).length/65536%256,(Ps.getD i []).length/16777216%256])) 0 4 (bs (leN 4 (Ps.getD i []).length)),i<Ps.length,pb=pb,cs[off+i]? = some (sB (Ps.getD i [])),(bs (leN 4 (Ps.getD i []).length)).size+(bs (Ps.getD i [])).size≤9223372036854775807,Value.string (bs (leN 4 (Ps.getD i []).length)++bs (Ps.getD i []))=sB ((leN 4 (Ps.getD i []).length)++(Ps.getD i [])),(bs (packN (Ps.take i))).size+(bs ((leN 4 (Ps.getD i []).length)++(Ps.getD i []))).size≤9223372036854775807,Value.string (bs (packN (Ps.take i))++bs ((leN 4 (Ps.getD i []).length)++(Ps.getD i [])))=sB (packN (Ps.take (i+1)))]) (fun nb Kt=>Kt [(3,sB (packN (Ps.take (i+1)))),(5,iN ((Ps.getD i []).length)),(4,iN i),(2,sB []),(0,.slice (some ⟨pb,off,none⟩) Ps.length cap)] [(pb,.cells cs T9 fr)]) (by kernel_rfl) (by kernel_rfl) (by kernel_rfl) (fun _=>by kernel_rfl) (fun _ _=>by kernel_rfl) trivial (fun nb=>⟨by decide,by decide,by decide,rfl,(by rw [leN4];exact str_all (leN_len _ _) (leN_lt _ _)),by omega,rfl,(hp0 i hlt),(by simp only [bs_size,leN_len];omega),(vS2 (bs_app _ _)),(by simp only [bs_size,List.length_append,leN_len];omega),(vS2 ((bs_app _ _).trans (congrArg bs (by rw [packN_take Ps i hlt,List.append_assoc])))),trivial⟩) (fun nb=>fun _ _ FF7 MM7=>?_)
  refine inb_n (tN ?_)
  refine rg_c FF7 MM7 [] 6 [] [] (⟨by omega,fun _ _ FF8 MM8=>?_⟩)
  have hd:=cnt_of (FF8.get 0 rfl)
  refine tN ⟨⟨i+1,by omega,FF8.pick [0,1,3,4],MM8⟩,?_⟩
  rw [hc,hd];omega
 ·skip
  refine tN (.inr ⟨(FF5.ev 0 rfl).trans (dec_f hlt),?_⟩)
  have hie:i=Ps.length:=by omega
  subst hie
  rw [List.take_length]at FF5
  refine tN ?_
  refine wp_seq (rg_c FF5 MM5 [] 5 [] [] (fun _ _ FF9 MM9=>tN ?_))
  refine wp_ret ?_
  repeat first | refine tR ?_ | refine iR ?_
  exact(ret_fr FF9 0 Tryz.results112 rfl ⟨rfl,MM9.below1 0 rfl hb⟩)
theorem rpack_none (p:Option Addr)(cap:Nat)(w0:World) :
  Calls Tryz.prog 112 #[.slice p 0 cap] w0 fun e w'=>e=.returned (sB [])∧Below w0.heap.size w0 w':=by
 refine eF Tryz.func112 rfl Tryz.ntmps112 (by simp) fun ac (FF:Fr 38 ac [(0,.slice p 0 cap)])=>?_
 have MM:=MemS.start w0
 refine wp_seq (rg_c FF MM [(0,t_ (sB []))] 3 [] [] (⟨(by kernel_rfl),fun _ _ FF1 MM1=>tN ?_⟩))
 refine wp_seq (rg_c FF1 MM1 [(0,t_ (sB []))] 4 [] [] (⟨(by kernel_rfl),fun _ _ FF2 MM2=>tN ?_⟩))
 refine wp_seq ?_
 refine wp_seq (rg_c FF2 MM2 [] 5 [] [] (fun _ _ FF3 MM3=>tN ?_))
 refine wp_for2 (fun a' w'=>Fr 38 a' [(4,iN 0),(3,sB []),(2,sB []),(0,.slice p 0 cap)]∧MemS (fun k=>k<w0.heap.size) w0 w' [] []) (fun _ _=>0) ⟨FF3.pick [0,1,2,3],MM3⟩ ?_
 rintro ac4 wd4 ⟨FF4,MM4⟩
 refine rg_c FF4 MM4 [(3,w_ 3)] 5 [9] [] (⟨by decide,fun _ _ FF5 MM5=>?_⟩)
 refine tN (.inr ⟨FF5.ev 0 rfl,?_⟩)
 refine tN ?_
 refine wp_seq (rg_c FF5 MM5 [] 5 [] [] (fun _ _ FF6 MM6=>tN ?_))
 refine wp_ret ?_
 repeat first | refine tR ?_ | refine iR ?_
 exact(ret_fr FF6 0 Tryz.results112 rfl ⟨rfl,MM6.below⟩)
theorem rpack_any (Ps:List (List Nat))(hP:∀X∈Ps,∀i,X.getD i 0<256)(hl:(packN Ps).length≤140737488355328)(p:Option Addr)(cap:Nat)(w0:World)(h:StrsIn w0 p Ps) :
  Calls Tryz.prog 112 #[.slice p Ps.length cap] w0 fun e w'=>e=.returned (sB (packN Ps))∧Below w0.heap.size w0 w':=by
 rcases h with rfl | ⟨b,off,cs,T,fr,rfl,hb,hc⟩
 ·exact rpack_none p cap w0
 ·exact rpack_some Ps hP hl b off cap T fr cs hc w0 hb
theorem rdky_O (O:Blks)(hD:Distinct O)(X:List Nat)(hX:∀i,X.getD i 0<256)(Ps:List (List Nat))(hP:∀X∈Ps,∀i,X.getD i 0<256)(hl:X.length+(packN Ps).length<100000000)(p:Option Addr)(cap:Nat)(hO:StrsO O p Ps)(w0:World)(H:Has w0 O) :
  Calls Tryz.prog 72 #[sB X,.slice p Ps.length cap] w0 fun e w'=>e=.returned (.agg (cn .u8 (shaN (packN [X]++packN Ps))))∧Below w0.heap.size w0 w':=by
 refine eF Tryz.func72 rfl Tryz.ntmps72 (by simp) fun ac (FF:Fr 12 ac [(0,sB X),(1,.slice p Ps.length cap)])=>?_
 have MM:MemS (fun k=>k<w0.heap.size∧∀x∈O,x.1≠k) w0 w0 O []:=MemS.startN H hD
 have hlX:(packN [X]).length=4+X.length:=by simp [packN_len]
 refine wp_seq (rg_c FF MM [(0,s_ 0 (.cells (cn .u8 (List.replicate 32 0)) 51))] 5 [] [] (⟨(by kernel_rfl),fun bo=>fun _ _ FF1 MM1=>tN ?_⟩))
 refine wp_seq (rg_c FF1 MM1 [(1,s_ 0 (oC #[sB X] 9)),(0,u_ 1 (sB (packN [X]))),(1,u_ 1 (sB (packN Ps))),(0,t_ (sB ((packN [X])++(packN Ps)))),(0,t_ (.agg (cn .u8 (shaN ((packN [X])++(packN Ps)))))),(0,b_ 1)] 0 [4] [] (⟨(by kernel_rfl),fun ba=>⟨⟨en_rpack,fun w Hw=>rpack_any [X] (lt1 hX) (by rw [hlX];omega) (some ⟨ba,0,none⟩) 1 w (.inr ⟨ba,0,_,_,_,rfl,Hw 0 _ rfl,(at1s X)⟩)⟩,⟨en_rpack,fun w Hw=>rpack_any Ps hP (by omega) p cap w (hO.at (Has.tl (Has.tl Hw)))⟩,(by simp only [bs_size,hlX];omega),(vS2 (bs_app _ _)),(cP en_rsum (rsum_any ((packN [X])++(packN Ps)) (app_lt (packN_lt (lt1 hX)) (packN_lt hP)) (by simp only [List.length_append,hlX];omega)) _),rfl,((cZ _ _).trans (List.length_replicate ..)),((cZ _ _).trans (shaN_bytes _).len),(cn_one _ _),rfl,fun _ _ FF2 MM2=>tN ?_⟩⟩))
 refine wp_ret ?_
 repeat first | refine tR ?_ | refine iR ?_
 exact(retc FF2 MM2 (k:=32) (i:=1) (j:=0) Tryz.results72 rfl rfl Tryz.underlying51 rfl (by kernel_rfl) ((cZ _ _).trans (shaN_bytes _).len) ⟨rfl,MM2.belowN H (fun x hx=>List.mem_cons_of_mem _ (List.mem_cons_of_mem _ (hx)))⟩)
theorem rdky_any (X:List Nat)(hX:∀i,X.getD i 0<256)(Ps:List (List Nat))(hP:∀X∈Ps,∀i,X.getD i 0<256)(hl:X.length+(packN Ps).length<100000000)(p:Option Addr)(cap:Nat)(w0:World)(h:StrsIn w0 p Ps) :
  Calls Tryz.prog 72 #[sB X,.slice p Ps.length cap] w0 fun e w'=>e=.returned (.agg (cn .u8 (shaN (packN [X]++packN Ps))))∧Below w0.heap.size w0 w':=by
 obtain⟨O,hD,H,hO⟩:=strsO_of h
 exact rdky_O O hD X hX Ps hP hl p cap hO w0 H
theorem genI (X:List Nat)(h:X.length=32):genL 16 (fun i=>X.getD i 0) 16=X.take 16:=by
 refine List.ext_getElem (by simp [genL,h]) fun i h1 h2=>?_
 have hi:i<16:=by simpa [genL]using h1
 simp [genL,hi,show i<X.length by omega]
theorem rdid_O (O:Blks)(hD:Distinct O)(X:List Nat)(hX:∀i,X.getD i 0<256)(Ps:List (List Nat))(hP:∀X∈Ps,∀i,X.getD i 0<256)(hl:X.length+(packN Ps).length<100000000)(p:Option Addr)(cap:Nat)(hO:StrsO O p Ps)(w0:World)(H:Has w0 O) :
  Calls Tryz.prog 75 #[sB X,.slice p Ps.length cap] w0 fun e w'=>e=.returned (.agg (cn .u8 (idN X Ps)))∧Below w0.heap.size w0 w':=by
 refine eF Tryz.func75 rfl Tryz.ntmps75 (by simp) fun ac (FF:Fr 22 ac [(0,sB X),(1,.slice p Ps.length cap)])=>?_
 have MM:MemS (fun k=>k<w0.heap.size∧∀x∈O,x.1≠k) w0 w0 O []:=MemS.startN H hD
 refine wp_seq (rg_c FF MM [(0,s_ 0 (.cells (cn .u8 (List.replicate 16 0)) 94))] 5 [] [] (⟨(by kernel_rfl),fun bo=>fun _ _ FF1 MM1=>tN ?_⟩))
 refine wp_seq (rg_c FF1 MM1 [(2,u_ 1 (.agg (cn .u8 (shaN (packN [X]++packN Ps))))),(0,s_ 0 (.cells (cn .u8 (List.replicate 32 0)) 51)),(0,b_ 0)] 0 [4,5] [] (⟨⟨en_rdky,fun w Hw=>rdky_any X hX Ps hP hl p cap w (hO.at (Has.tl Hw))⟩,(by kernel_rfl),fun bk=>⟨rfl,((cZ _ _).trans (List.length_replicate ..)),((cZ _ _).trans (shaN_bytes _).len),(cn_one _ _),rfl,fun _ _ FF2 MM2=>tN ?_⟩⟩))
 refine wp_seq (rg_c FF2 MM2 [(0,t_ (.agg (cn .u8 (List.replicate 16 0)))),(0,s_ 0 (.cells (cn .u8 (List.replicate 16 0)) 94)),(0,b_ 0)] 7 [] [] (⟨(by kernel_rfl),(by kernel_rfl),fun bu=>⟨rfl,((cZ _ _).trans (List.length_replicate ..)),((cZ _ _).trans (List.length_replicate ..)),(cn_one _ _),rfl,fun _ _ FF3 MM3=>tN ?_⟩⟩))
 have MMr5:MemS _ _ _ ((bu,.cells (cn .u8 (genL 16 (fun j=>(shaN (packN [X]++packN Ps)).getD j 0) 0)) 94)::_::_::_) _:=MM3.eqA 0 rfl (by rw [←genL_zero 16 (fun j=>(shaN (packN [X]++packN Ps)).getD j 0)] <;> rfl)
 refine wp_seq ?_
 refine wp_seq (rg_c FF3 MMr5 [] 8 [] [] (fun _ _ FF4 MM4=>tN ?_))
 refine wp_for2 (fun a' w'=>∃i:Nat,i≤16∧Fr 22 a' [(7,iN i),(6,pT bu),(5,pT bk),(4,pT bo)]∧MemS (fun k=>k<w0.heap.size∧∀x∈O,x.1≠k) w0 w' ((bu,.cells (cn .u8 (genL 16 (fun j=>(shaN (packN [X]++packN Ps)).getD j 0) i)) 94)::(bk,.cells (cn .u8 (shaN (packN [X]++packN Ps))) 51)::(bo,.cells (cn .u8 (List.replicate 16 0)) 94)::O) []) (fun a' _=>(16-cnt 7 a').toNat) ⟨0,by omega,FF4.pick [0,1,2,3],MM4⟩ ?_
 rintro ac5 wd5 ⟨i,hi,FF5,MM5⟩
 have hci:=cnt_of (FF5.get 0 rfl)
 refine rg_c FF5 MM5 [] 8 [13] [] (fun _ _ FF6 MM6=>?_)
 by_cases hlti:i<16
 ·skip
  refine tN (.inl ⟨(FF6.ev 0 rfl).trans (dec_t hlti),?_⟩)
  refine rg_c FF6 MM6 [(2,w_ 1),(0,l_ 1 (iB ((shaN (packN [X]++packN Ps)).getD i 0))),(0,w_ 1),(0,s_ 0 (.cells (cn .u8 (genL 16 (fun j=>(shaN (packN [X]++packN Ps)).getD j 0) (i+1))) 94))] 8 [] [] (⟨by omega,rfl,(cn_get _ _ _ (by rw [(shaN_bytes _).len];have:=hi;have:=hlti;omega)),by omega,rfl,(by rw [cZ,(genL_len _ _ _)];omega),(.inl rfl),((cn_set _ _ _ _).trans (congrArg _ (genL_step _ _ i (by omega) rfl))),fun _ _ FF7 MM7=>?_⟩)
  refine inb_n (tN ?_)
  refine rg_c FF7 MM7 [] 8 [] [] (⟨by omega,fun _ _ FF8 MM8=>?_⟩)
  have hdi:=cnt_of (FF8.get 0 rfl)
  refine tN ⟨⟨i+1,by omega,FF8.pick [0,1,2,3],MM8⟩,?_⟩
  rw [hci,hdi];omega
 ·skip
  refine tN (.inr ⟨(FF6.ev 0 rfl).trans (dec_f hlti),?_⟩)
  obtain rfl:i=16:=by omega
  refine tN ?_
  refine wp_seq (rg_c FF6 MM6 [(0,b_ 0),(0,b_ 2)] 8 [] [] (⟨rfl,((cZ _ _).trans (genL_len _ _ _)),rfl,((cZ _ _).trans (List.length_replicate ..)),((cZ _ _).trans (genL_len _ _ _)),(cn_one _ _),rfl,fun _ _ FF9 MM9=>tN ?_⟩))
  refine wp_ret ?_
  repeat first | refine tR ?_ | refine iR ?_
  exact(retc FF9 MM9 (k:=16) (i:=2) (j:=3) Tryz.results75 rfl rfl Tryz.underlying94 rfl (by kernel_rfl) ((cZ _ _).trans (genL_len _ _ _)) ⟨by rw [genI _ (shaN_bytes _).len];rfl,MM9.belowN H (fun x hx=>List.mem_cons_of_mem _ (List.mem_cons_of_mem _ (List.mem_cons_of_mem _ (hx))))⟩)
theorem rdid_any (X:List Nat)(hX:∀i,X.getD i 0<256)(Ps:List (List Nat))(hP:∀X∈Ps,∀i,X.getD i 0<256)(hl:X.length+(packN Ps).length<100000000)(p:Option Addr)(cap:Nat)(w0:World)(h:StrsIn w0 p Ps) :
  Calls Tryz.prog 75 #[sB X,.slice p Ps.length cap] w0 fun e w'=>e=.returned (.agg (cn .u8 (idN X Ps)))∧Below w0.heap.size w0 w':=by
 obtain⟨O,hD,H,hO⟩:=strsO_of h
 exact rdid_O O hD X hX Ps hP hl p cap hO w0 H
theorem rround_any (n:Nat)(hn:n<18446744073709551616)(w0:World) :
  Calls Tryz.prog 76 #[iW n] w0 fun e w'=>e=.returned (sB (leN 8 n))∧Below w0.heap.size w0 w':=by
 refine eF Tryz.func76 rfl Tryz.ntmps76 (by simp) fun ac (FF:Fr 19 ac [(0,iW n)])=>?_
 have MM:=MemS.start w0
 refine wp_seq (rg_c FF MM [(0,t_ (sB []))] 3 [] [] (⟨(by kernel_rfl),fun _ _ FF1 MM1=>tN ?_⟩))
 refine wp_seq (rg_c FF1 MM1 [(0,t_ (.agg (cn .u8 (List.replicate 8 0)))),(0,s_ 0 (.cells (cn .u8 (List.replicate 8 0)) 205)),(0,b_ 0)] 4 [] [] (⟨(by kernel_rfl),(by kernel_rfl),fun bo=>⟨rfl,((cZ _ _).trans (List.length_replicate ..)),((cZ _ _).trans (List.length_replicate ..)),(cn_one _ _),rfl,fun _ _ FF2 MM2=>tN ?_⟩⟩))
 have MMr4:MemS _ _ _ [(bo,.cells (cn .u8 (genL 8 (leF n) 0)) 205)] _:=MM2.eqA 0 rfl (by rw [←genL_zero 8 (leF n)] <;> rfl)
 refine wp_seq ?_
 refine wp_seq (rg_c FF2 MMr4 [] 5 [] [] (fun _ _ FF3 MM3=>tN ?_))
 refine wp_for2 (fun a' w'=>∃i:Nat,i≤8∧Fr 19 a' [(4,iN i),(3,pT bo),(2,sB []),(0,iW n)]∧MemS (fun k=>k<w0.heap.size) w0 w' [(bo,.cells (cn .u8 (genL 8 (leF n) i)) 205)] []) (fun a' _=>(8-cnt 4 a').toNat) ⟨0,by omega,FF3.pick [0,1,2,3],MM3⟩ ?_
 rintro ac4 wd4 ⟨i,hi,FF4,MM4⟩
 have hci:=cnt_of (FF4.get 0 rfl)
 refine rg_c FF4 MM4 [] 5 [7] [] (fun _ _ FF5 MM5=>?_)
 by_cases hlti:i<8
 ·skip
  refine tN (.inl ⟨(FF5.ev 0 rfl).trans (dec_t hlti),?_⟩)
  refine rg_c FF5 MM5 [(5,t_ (iB (leF n i))),(0,w_ 1),(0,s_ 0 (.cells (cn .u8 (genL 8 (leF n) (i+1))) 205))] 5 [] [] (⟨by omega,(by show _≤64;have:=hn;omega),rfl,by omega,rfl,(by rw [cZ,(genL_len _ _ _)];omega),(.inl rfl),((cn_set _ _ _ _).trans (congrArg _ (genL_step _ _ i hlti rfl))),fun _ _ FF6 MM6=>?_⟩)
  refine inb_n (tN ?_)
  refine rg_c FF6 MM6 [] 5 [] [] (⟨by omega,fun _ _ FF7 MM7=>?_⟩)
  have hdi:=cnt_of (FF7.get 0 rfl)
  refine tN ⟨⟨i+1,by omega,FF7.pick [0,1,2,3],MM7⟩,?_⟩
  rw [hci,hdi];omega
 ·skip
  refine tN (.inr ⟨(FF5.ev 0 rfl).trans (dec_f hlti),?_⟩)
  obtain rfl:i=8:=by omega
  refine tN ?_
  refine wp_seq (rg_c FF5 MM5 [(1,l_ 0 (sB (genL 8 (leF n) 8)))] 5 [] [] (⟨by decide,by decide,by decide,rfl,(str_all (genL_len _ _ _) (genL_lt (by decide) (leF_lt n) 8)),fun _ _ FF8 MM8=>tN ?_⟩))
  refine wp_ret ?_
  repeat first | refine tR ?_ | refine iR ?_
  exact(ret_fr FF8 0 Tryz.results76 rfl ⟨rfl,MM8.below⟩)
theorem non0 (a:Nat):[a%256,a/256%256,a/65536%256,a/16777216%256,0,0,0,0,0,0,0,0]=leN 4 a++List.replicate 8 0:=by rw [←leN4];rfl
theorem nonE (a r:Nat):ovr (leN 4 a++List.replicate 8 0) 4 (leF r) 8=nonN a r:=by
 rw [ovr,List.drop_eq_nil_of_le (by rw [List.length_append,leN_len];decide),List.take_left' (leN_len 4 a),nonN,leN_map 8,List.append_nil]
theorem rnonce_any (a r:Nat)(_ha:a<4294967296)(hr:r<18446744073709551616)(w0:World) :
  Calls Tryz.prog 58 #[.int .u32 (a:Nat),iW r] w0 fun e w'=>e=.returned (.agg (cn .u8 (nonN a r)))∧Below w0.heap.size w0 w':=by
 refine eF Tryz.func58 rfl Tryz.ntmps58 (by simp) fun ac (FF:Fr 32 ac [(0,.int .u32 (a:Nat)),(1,iW r)])=>?_
 have MM:=MemS.start w0
 refine wp_seq (rg_c FF MM [(0,s_ 0 (.cells (cn .u8 (List.replicate 12 0)) 123))] 5 [] [] (⟨(by kernel_rfl),fun bo=>fun _ _ FF1 MM1=>tN ?_⟩))
 refine wp_seq (rg_c FF1 MM1 [(3,t_ (.int .u32 (a/256:Nat))),(2,t_ (.int .u32 (a/65536:Nat))),(2,t_ (.int .u32 (a/16777216:Nat))),(1,t_ (.agg (cn .u8 ([a%256,(a/256)%256,(a/65536)%256,(a/16777216)%256,0,0,0,0,0,0,0,0])))),(0,s_ 0 (.cells (cn .u8 (List.replicate 12 0)) 123)),(0,b_ 0)] 6 [] [0] (⟨by decide,rfl,by decide,rfl,by decide,rfl,(by kernel_rfl),(by kernel_rfl),fun bu=>⟨rfl,((cZ _ _).trans (List.length_replicate ..)),((cZ _ _).trans rfl),(cn_one _ _),rfl,fun _ _ FF2 MM2=>tN ?_⟩⟩))
 have MMu:MemS _ _ _ [(bu,.cells (cn .u8 (ovr (leN 4 a++List.replicate 8 0) 4 (leF r) 0)) 123),_] _:=MM2.eqA 0 rfl (by rw [ovr_zero,←non0] <;> rfl)
 refine wp_seq ?_
 refine wp_seq (rg_c FF2 MMu [] 7 [] [] (fun _ _ FF3 MM3=>tN ?_))
 refine wp_for2 (fun a' w'=>∃i:Nat,i≤8∧Fr 32 a' [(6,iN i),(5,pT bu),(4,pT bo),(1,iW r)]∧MemS (fun k=>k<w0.heap.size) w0 w' [(bu,.cells (cn .u8 (ovr (leN 4 a++List.replicate 8 0) 4 (leF r) i)) 123),(bo,.cells (cn .u8 (List.replicate 12 0)) 123)] []) (fun a' _=>(8-cnt 6 a').toNat) ⟨0,by omega,FF3.pick [0,1,2,3],MM3⟩ ?_
 rintro ac4 wd4 ⟨i,hi,FF4,MM4⟩
 have hci:=cnt_of (FF4.get 0 rfl)
 refine rg_c FF4 MM4 [] 7 [20] [] (fun _ _ FF5 MM5=>?_)
 by_cases hlti:i<8
 ·skip
  refine tN (.inl ⟨(FF5.ev 0 rfl).trans (dec_t hlti),?_⟩)
  refine rg_c FF5 MM5 [(6,t_ (iB (leF r i))),(0,w_ 1),(0,s_ 0 (.cells (cn .u8 (ovr (leN 4 a++List.replicate 8 0) 4 (leF r) (i+1))) 123))] 7 [] [] (⟨by omega,by omega,(by show _≤64;have:=hr;omega),rfl,by omega,rfl,(by rw [cZ,(ovr_len (n:=12) _ (by simp [leN_len]) (by omega))];omega),(.inl rfl),((cn_set _ _ _ _).trans (congrArg _ (ovr_step _ (by rw [List.length_append,leN_len,List.length_replicate];omega) rfl))),fun _ _ FF6 MM6=>?_⟩)
  refine inb_n (tN ?_)
  refine rg_c FF6 MM6 [] 7 [] [] (⟨by omega,fun _ _ FF7 MM7=>?_⟩)
  have hdi:=cnt_of (FF7.get 0 rfl)
  refine tN ⟨⟨i+1,by omega,FF7.pick [0,1,2,3],MM7⟩,?_⟩
  rw [hci,hdi];omega
 ·skip
  refine tN (.inr ⟨(FF5.ev 0 rfl).trans (dec_f hlti),?_⟩)
  obtain rfl:i=8:=by omega
  refine tN ?_
  refine wp_seq (rg_c FF5 MM5 [(0,b_ 0),(0,b_ 1)] 7 [] [] (⟨rfl,((cZ _ _).trans (ovr_len (n:=12) _ (by simp [leN_len]) (by omega))),rfl,((cZ _ _).trans (List.length_replicate ..)),((cZ _ _).trans (ovr_len (n:=12) _ (by simp [leN_len]) (by omega))),(cn_one _ _),rfl,fun _ _ FF8 MM8=>tN ?_⟩))
  refine wp_ret ?_
  repeat first | refine tR ?_ | refine iR ?_
  exact(retc FF8 MM8 (k:=12) (i:=1) (j:=2) Tryz.results58 rfl rfl Tryz.underlying123 rfl (by kernel_rfl) ((cZ _ _).trans (ovr_len (n:=12) _ (by simp [leN_len]) (by omega))) ⟨by rw [nonE],MM8.below⟩)
def psum (h:Nat→Nat):Nat→Nat
 | 0=>0
 | n+1=>psum h n+h n*65536^n
def dg (n j:Nat):Nat:=n/65536^j%65536
theorem dg_lt (n j:Nat):dg n j<65536:=Nat.mod_lt _ (by decide)
theorem pow_pos' (n:Nat):0<65536^n:=Nat.pow_pos (by decide)
theorem psum_congr {f g:Nat→Nat}:∀n,(∀j,j<n→f j=g j)→psum f n=psum g n
 | 0,_=>rfl
 | n+1,h=>by unfold psum;rw [psum_congr n (fun j hj=>h j (by omega)),h n (by omega)]
theorem psum_step (h:Nat→Nat)(n:Nat):psum h (n+1)/65536^n=psum h n/65536^n+h n:=by
 show(psum h n+h n*65536^n)/65536^n=_
 rw [Nat.add_mul_div_right _ _ (pow_pos' n)]
theorem psum_le {h:Nat→Nat}{B:Nat}(hB:1≤B):∀n,(∀j,j<n→h j<B)→psum h n≤B*65536^n
 | 0,_=>by simp [psum]
 | n+1,hh=>by
  have ih:=psum_le hB n (fun j hj=>hh j (by omega))
  have h1:=hh n (by omega)
  have h2:h n*65536^n≤B*65536^n:=Nat.mul_le_mul_right _ (by omega)
  show psum h n+h n*65536^n≤_
  rw [Nat.pow_succ]
  have:B*(65536^n*65536)=65536*(B*65536^n):=by rw [←Nat.mul_assoc,Nat.mul_comm]
  rw [this]
  omega
theorem psum_div {h:Nat→Nat}{B:Nat}(hB:1≤B)(n:Nat)(hh:∀j,j<n→h j<B):psum h n/65536^n≤B:=by
 have:=Nat.div_le_div_right (c:=65536^n) (psum_le hB n hh)
 rwa [Nat.mul_div_cancel _ (pow_pos' n)]at this
theorem psum_mod (h:Nat→Nat)(n:Nat):∀k,psum h (n+k)%65536^n=psum h n%65536^n
 | 0=>rfl
 | k+1=>by
  show(psum h (n+k)+h (n+k)*65536^(n+k))%65536^n=_
  rw [Nat.pow_add,←Nat.mul_assoc,Nat.mul_right_comm,Nat.add_mul_mod_self_right,psum_mod h n k]
theorem dg_of_mod {a b j:Nat}(h:a%65536^(j+1)=b%65536^(j+1)):dg a j=dg b j:=by
 unfold dg
 rw [Nat.pow_succ]at h
 rw [←Nat.mod_mul_right_div_self,←Nat.mod_mul_right_div_self,h]
theorem dg_psum (h:Nat→Nat)(n j:Nat)(hj:j<n):dg (psum h n) j=dg (psum h (j+1)) j:=
 dg_of_mod (by rw [show n=(j+1)+(n-(j+1))by omega];exact psum_mod h (j+1) _)
theorem psum_dg (N:Nat):∀n,psum (dg N) n=N%65536^n
 | 0=>by simp [psum,Nat.mod_one]
 | n+1=>by
  show psum (dg N) n+dg N n*65536^n=_
  rw [psum_dg N n,Nat.pow_succ,Nat.mod_mul,Nat.mul_comm]
  rfl
theorem psum_add (f g:Nat→Nat):∀n,psum (fun j=>f j+g j) n=psum f n+psum g n
 | 0=>rfl
 | n+1=>by unfold psum;rw [psum_add f g n,Nat.add_mul];omega
theorem psum_scale (c:Nat)(f:Nat→Nat):∀n,psum (fun j=>c*f j) n=c*psum f n
 | 0=>rfl
 | n+1=>by unfold psum;rw [psum_scale c f n,Nat.mul_add,Nat.mul_assoc]
theorem psum_split (f:Nat→Nat)(n:Nat):∀k,psum f (n+k)=psum f n+65536^n*psum (fun j=>f (n+j)) k
 | 0=>by simp [psum]
 | k+1=>by
  show psum f (n+k)+f (n+k)*65536^(n+k)=_
  rw [psum_split f n k]
  show _=psum f n+65536^n*(psum (fun j=>f (n+j)) k+f (n+k)*65536^k)
  rw [Nat.mul_add,Nat.pow_add,←Nat.add_assoc]
  congr 1
  rw [Nat.mul_left_comm]
def q256:Nat:=65536^16
theorem q256_top:q256=top4:=by decide
def fold (V:Nat):Nat:=V%q256+38*(V/q256)
def hOf (V j:Nat):Nat:=dg V j+if j=0 then 38*(V/q256)else 0
theorem fold_mod (V:Nat):fold V%pN=V%pN:=by
 have e:V=V%q256+q256*(V/q256):=(Nat.mod_add_div V q256).symm
 have e2:q256=2*pN+38:=by decide
 have e3:V=fold V+pN*(2*(V/q256)):=by
  unfold fold
  generalize V/q256=a at *
  generalize V%q256=b at *
  rw [e,e2,Nat.add_mul,←Nat.mul_assoc pN 2 a,Nat.mul_comm pN 2]
  omega
 conv=>rhs;rw [e3,Nat.add_mul_mod_self_left]
theorem psum_hOf (V:Nat):psum (hOf V) 16=fold V:=by
 have h1:psum (hOf V) 16=psum (dg V) 16+psum (fun j=>if j=0 then 38*(V/q256)else 0) 16:=psum_add _ _ 16
 rw [h1,psum_dg]
 have:psum (fun j=>if j=0 then 38*(V/q256)else 0) 16=38*(V/q256):=by simp [psum]
 rw [this]
 rfl
theorem fold_fold {V:Nat}(h:V/q256≤1125899906842624):fold (fold V)<q256∧fold V/q256≤1:=by
 have e:fold V<q256+42784196460019713:=by
  have:=Nat.mod_lt V (show 0<q256 by decide)
  unfold fold;omega
 have h2:fold V/q256≤1:=by
  rw [q256_top]at *
  generalize fold V=F at *
  unfold top4 at *
  omega
 refine⟨?_,h2⟩
 unfold fold
 rw [show V%q256+38*(V/q256)=fold V from rfl]
 generalize fold V=F at *
 rw [q256_top]at *
 unfold top4 at *
 omega
def sub1 (n:Nat):Nat:=if n<pN then n else n-pN
theorem sub3 {n:Nat}(h:n<q256):sub1 (sub1 (sub1 n))=n%pN:=by
 rw [q256_top]at h
 unfold sub1
 unfold top4 pN at *
 (repeat' split) <;> omega
def pd (i:Nat):Nat:=if i=0 then 65517 else if i=15 then 32767 else 65535
theorem pd_lt (i:Nat):pd i<65536:=by unfold pd;split;omega;split <;> omega
theorem pd_psum:psum pd 16=pN:=by decide
def bw (f g:Nat→Nat):Nat→Nat
 | 0=>0
 | i+1=>1-(f i+65536-g i-bw f g i)/65536
def bd (f g:Nat→Nat)(i:Nat):Nat:=(f i+65536-g i-bw f g i)%65536
theorem bw_le (f g:Nat→Nat)(i:Nat):bw f g i≤1:=by cases i <;> simp [bw]
theorem bw_spec (f g:Nat→Nat):∀n,(∀j,j<n→f j<65536)→(∀j,j<n→g j<65536)→
  psum (bd f g) n+psum g n=psum f n+bw f g n*65536^n
 | 0,_,_=>by simp [psum,bw]
 | n+1,hf,hg=>by
  have ih:=bw_spec f g n (fun j hj=>hf j (by omega)) (fun j hj=>hg j (by omega))
  have h1:=hf n (by omega)
  have h2:=hg n (by omega)
  have h3:=bw_le f g n
  have key:bd f g n+g n+bw f g n=f n+bw f g (n+1)*65536:=by
   show(f n+65536-g n-bw f g n)%65536+g n+bw f g n=f n+(1-(f n+65536-g n-bw f g n)/65536)*65536
   generalize bw f g n=b at *
   omega
  show psum (bd f g) n+bd f g n*65536^n+(psum g n+g n*65536^n)=psum f n+f n*65536^n+bw f g (n+1)*65536^(n+1)
  rw [Nat.pow_succ,show bw f g (n+1)*(65536^n*65536)=bw f g (n+1)*65536*65536^n by rw [Nat.mul_comm (65536^n),Nat.mul_assoc]]
  have k2:(bd f g n+g n+bw f g n)*65536^n=(f n+bw f g (n+1)*65536)*65536^n:=by rw [key]
  rw [Nat.add_mul,Nat.add_mul,Nat.add_mul]at k2
  omega
theorem bd_lt (f g:Nat→Nat)(i:Nat):bd f g i<65536:=Nat.mod_lt _ (by decide)
theorem psum_lt {h:Nat→Nat}:∀n,(∀j,j<n→h j<65536)→psum h n<65536^n
 | 0,_=>by simp [psum]
 | n+1,hh=>by
  have ih:=psum_lt n (fun j hj=>hh j (by omega))
  have h1:=hh n (by omega)
  have h2:h n*65536^n≤65535*65536^n:=Nat.mul_le_mul_right _ (by omega)
  show psum h n+h n*65536^n<_
  rw [Nat.pow_succ]
  omega
theorem dg_eq {h:Nat→Nat}(n j:Nat)(hj:j<n)(hh:∀j,j<n→h j<65536):dg (psum h n) j=h j:=by
 rw [dg_psum h n j hj]
 unfold dg
 rw [psum_step,Nat.div_eq_of_lt (psum_lt j (fun i hi=>hh i (by omega))),Nat.zero_add,Nat.mod_eq_of_lt (hh j hj)]
def foldN (V:Nat):Nat→Nat
 | 0=>V
 | r+1=>fold (foldN V r)
structure InvC (V0 r:Nat)(h:Nat→Nat):Prop where
 small:∀j,j<16→h j<144115188075855872
 sum:psum h 16=foldN V0 r
 over:foldN V0 r/q256≤1125899906842624
 form:∀r',r=r'+1→∀j,j<16→h j=hOf (foldN V0 r') j
theorem InvC.step {V0 r:Nat}{h:Nat→Nat}(H:InvC V0 r h):InvC V0 (r+1) (hOf (psum h 16)):=by
 have e:=H.sum
 rw [e]
 refine⟨fun j _=>?_,psum_hOf _,?_,fun r' hr j _=>?_⟩
 ·have h1:=dg_lt (foldN V0 r) j
  have h2:=H.over
  unfold hOf
  split <;> omega
 ·show fold (foldN V0 r)/q256≤_
  have:=(fold_fold H.over).2
  omega
 ·have:r'=r:=by omega
  rw [this]
theorem InvC.done {V0:Nat}{h:Nat→Nat}(h0:V0/q256≤1125899906842624)(H:InvC V0 3 h):∀j,j<16→h j=dg (fold (fold V0)) j:=fun j hj=>by
 rw [H.form 2 rfl j hj]
 have hlt:=(fold_fold h0).1
 show hOf (fold (fold V0)) j=_
 unfold hOf
 rw [Nat.div_eq_of_lt hlt]
 split <;> simp
theorem fc_setU (n:Nat)(g:Nat→Nat)(i x:Nat):(fc n (fun k9=>iW (g k9))).setIfInBounds i (iW x)=fc n (fun k9=>iW (if k9=i then x else g k9:Nat)):=by
 rw [fc_set]
 exact fc_cong fun k _=>by split <;> rfl
theorem put_lt2 (f g:Nat→Nat)(i t k:Nat):(if k<i+1 then f k else g k)=if k=i then f i else if k=i then t else if k<i then f k else g k:=by
 by_cases e:k=i
 ·subst e;rw [if_pos rfl,if_pos (Nat.lt_succ_self k)]
 ·rw [if_neg e,if_neg e]
  by_cases l:k<i
  ·rw [if_pos l,if_pos (by omega)]
  ·rw [if_neg l,if_neg (by omega)]
theorem carry_dg (h:Nat→Nat){i:Nat}(hi:i<16):(psum h (i+1)/65536^i) &&& 65535=dg (psum h 16) i:=by
 rw [show 65535=2^16-1 from rfl,Nat.and_two_pow_sub_one_eq_mod,dg_psum h 16 i hi];rfl
theorem carry_next (h:Nat→Nat)(i:Nat):psum h (i+1)/65536^i/65536=psum h (i+1)/65536^(i+1):=by
 rw [Nat.div_div_eq_div_mul,←Nat.pow_succ]
theorem hOf_put (V k:Nat):hOf V k=if k=0 then dg V 0+38*(V/65536^16)else dg V k:=by
 unfold hOf q256
 by_cases e:k=0
 ·subst e;rw [if_pos rfl,if_pos rfl]
 ·rw [if_neg e,if_neg e,Nat.add_zero]
theorem en_rcarry:Enters Tryz.prog 185:=fun args w=>by simp [go_sem]
theorem en_rprime:Enters Tryz.prog 157:=fun args w=>by simp [go_sem]
theorem en_rfull:Enters Tryz.prog 156:=fun args w=>by simp [go_sem]
theorem en_rOf:Enters Tryz.prog 124:=fun args w=>by simp [go_sem]
theorem en_rSmall:Enters Tryz.prog 125:=fun args w=>by simp [go_sem]
theorem en_rAdd:Enters Tryz.prog 126:=fun args w=>by simp [go_sem]
theorem en_rSub:Enters Tryz.prog 127:=fun args w=>by simp [go_sem]
theorem en_rMul:Enters Tryz.prog 128:=fun args w=>by simp [go_sem]
theorem en_rKey:Enters Tryz.prog 129:=fun args w=>by simp [go_sem]
theorem en_rInv:Enters Tryz.prog 130:=fun args w=>by simp [go_sem]
theorem en_rCurve:Enters Tryz.prog 95:=fun args w=>by simp [go_sem]
theorem en_rPub:Enters Tryz.prog 53:=fun args w=>by simp [go_sem]
theorem en_rShared:Enters Tryz.prog 54:=fun args w=>by simp [go_sem]
set_option maxHeartbeats 1000000 in
theorem rcarry_raw (h0:Nat→Nat)(H0:InvC (psum h0 16) 0 h0)(w0:World) :
  Calls Tryz.prog 185 #[.agg (fc 16 (fun k9=>iW (h0 k9)))] w0 fun e w'=>e=.returned (.agg (fc 16 (fun k9=>iW (dg (fold (fold (psum h0 16))) k9))))∧Below w0.heap.size w0 w':=by
 refine eF Tryz.func185 rfl Tryz.ntmps185 (by simp) fun ac (FF:Fr 36 ac [(0,.agg (fc 16 (fun k9=>iW (h0 k9))))])=>?_
 have MM:=MemS.start w0
 refine wp_seq (rg_c FF MM [(0,s_ 0 (.cells (fc 16 (fun k9=>iW (h0 k9))) 224)),(0,s_ 0 (.cells (cn .u64 (List.replicate 16 0)) 224))] 3 [] [0] (⟨(by kernel_rfl),fun bx=>⟨(by kernel_rfl),fun br=>fun _ _ FF1 MM1=>tN ?_⟩⟩))
 refine wp_seq ?_
 refine wp_seq (rg_c FF1 MM1 [] 4 [] [] (fun _ _ FF2 MM2=>tN ?_))
 refine wp_for2 (fun a' w'=>∃r:Nat,∃h:Nat→Nat,r≤3∧InvC (psum h0 16) r h∧Fr 36 a' [(3,iN r),(2,pT br),(1,pT bx)]∧MemS (fun k=>k<w0.heap.size) w0 w' [(br,.cells (cn .u64 (List.replicate 16 0)) 224),(bx,.cells (fc 16 (fun k9=>iW (h k9))) 224)] []) (fun a' _=>(3-cnt 3 a').toNat) ⟨0,h0,Nat.zero_le _,H0,FF2.pick [0,1,2],MM2⟩ ?_
 rintro ac3 wd3 ⟨r,h,hr,HI,FF3,MM3⟩
 have hco:=cnt_of (FF3.get 0 rfl)
 refine rg_c FF3 MM3 [] 4 [7] [] (fun _ _ FF4 MM4=>?_)
 by_cases hlto:r<3
 ·skip
  refine tN (.inl ⟨(FF4.ev 0 rfl).trans (dec_t hlto),?_⟩)
  refine wp_seq (rg_c FF4 MM4 [(0,t_ (iW (psum h 0/65536^0)))] 5 [] [] (⟨(vI (Nat.zero_div _).symm),fun _ _ FF5 MM5=>tN ?_⟩))
  refine wp_seq ?_
  refine wp_seq (rg_c FF5 MM5 [] 6 [] [] (fun _ _ FF6 MM6=>tN ?_))
  have MMr7:MemS _ _ _ [_,(bx,.cells (fc 16 (fun k9=>iW (if k9<0 then dg (psum h 16) k9 else h k9))) 224)] _:=MM6.eqA 1 rfl (by rw [show fc 16 (fun k9=>iW (if k9<0 then dg (psum h 16) k9 else h k9))=fc 16 (fun k9=>iW (h k9))from fc_cong fun k _=>vI (if_neg (Nat.not_lt_zero k))] <;> rfl)
  refine wp_for2 (fun a' w'=>∃i:Nat,i≤16∧Fr 36 a' [(5,iN i),(4,iW (psum h i/65536^i)),(3,iN r),(2,pT br),(1,pT bx)]∧MemS (fun k=>k<w0.heap.size) w0 w' [(br,.cells (cn .u64 (List.replicate 16 0)) 224),(bx,.cells (fc 16 (fun k9=>iW (if k9<i then dg (psum h 16) k9 else h k9))) 224)] []) (fun a' _=>(16-cnt 5 a').toNat) ⟨0,Nat.zero_le _,FF6.pick [0,1,2,3,4],MMr7⟩ ?_
  rintro ac8 wd8 ⟨i,hi,FF8,MM8⟩
  have hc:=cnt_of (FF8.get 0 rfl)
  refine rg_c FF8 MM8 [] 6 [11] [] (fun _ _ FF9 MM9=>?_)
  by_cases hlt:i<16
  ·skip
   refine tN (.inl ⟨(FF9.ev 0 rfl).trans (dec_t hlt),?_⟩)
   have hs1:=HI.small i hlt
   have hs2:=psum_div (h:=h) (B:=144115188075855872) (by decide) i (fun j hj=>HI.small j (by omega))
   refine wp_seq (rg_c FF9 MM9 [(1,w_ 1),(0,l_ 1 (iW (h i))),(1,u_ 1 (iW (psum h (i+1)/65536^i))),(0,w_ 1),(0,s_ 1 (.cells (fc 16 (fun k9=>iW (if k9=i then psum h (i+1)/65536^i else(if k9<i then dg (psum h 16) k9 else h k9)))) 224))] 6 [] [] (⟨by omega,rfl,((fc_get _ (by omega)).trans (congrArg some (vI (if_neg (Nat.lt_irrefl i))))),by omega,(vI ((Nat.add_comm _ _).trans (psum_step h i).symm)),by omega,rfl,(by rw [fc_size];omega),(.inl rfl),(fc_setU _ _ _ _),fun _ _ FF10 MM10=>tN ?_⟩))
   refine wp_seq (rg_c FF10 MM10 [(1,w_ 1),(0,l_ 1 (iW (psum h (i+1)/65536^i))),(0,t_ (iW (psum h (i+1)/65536^(i+1))))] 6 [] [] (⟨by omega,rfl,((fc_get _ (by omega)).trans (congrArg some (vI (if_pos rfl)))),by decide,(vI (carry_next h i)),fun _ _ FF11 MM11=>tN ?_⟩))
   have ht3:psum h (i+1)/65536^i<18446744073709551616:=by rw [psum_step];omega
   refine rg_c FF11 MM11 [(1,w_ 1),(0,l_ 1 (iW (psum h (i+1)/65536^i))),(0,t_ (iW (dg (psum h 16) i))),(0,w_ 1),(0,s_ 1 (.cells (fc 16 (fun k9=>iW (if k9=i then dg (psum h 16) i else(if k9=i then psum h (i+1)/65536^i else(if k9<i then dg (psum h 16) k9 else h k9))))) 224))] 6 [] [] (⟨by omega,rfl,((fc_get _ (by omega)).trans (congrArg some (vI (if_pos rfl)))),ht3,by decide,(vI (carry_dg h hlt)),by omega,rfl,(by rw [fc_size];omega),(.inl rfl),(fc_setU _ _ _ _),fun _ _ FF12 MM12=>?_⟩)
   have MMr13:MemS _ _ _ [_,(bx,.cells (fc 16 (fun k9=>iW (if k9<i+1 then dg (psum h 16) k9 else h k9))) 224)] _:=MM12.eqA 1 rfl (by rw [show fc 16 (fun k9=>iW (if k9<i+1 then dg (psum h 16) k9 else h k9))=fc 16 (fun k9=>iW (if k9=i then dg (psum h 16) i else(if k9=i then psum h (i+1)/65536^i else(if k9<i then dg (psum h 16) k9 else h k9))))from fc_cong fun k _=>vI (put_lt2 (dg (psum h 16)) h i (psum h (i+1)/65536^i) k)] <;> rfl)
   refine inb_n (tN ?_)
   refine rg_c FF12 MMr13 [] 6 [] [] (⟨by omega,fun _ _ FF14 MM14=>?_⟩)
   have hd:=cnt_of (FF14.get 0 rfl)
   refine tN ⟨⟨i+1,by omega,FF14.pick [0,1,2,3,4],MM14⟩,?_⟩
   rw [hc,hd];omega
  ·skip
   refine tN (.inr ⟨(FF9.ev 0 rfl).trans (dec_f hlt),?_⟩)
   obtain rfl:i=16:=by omega
   have MMr15:MemS _ _ _ [_,(bx,.cells (fc 16 (fun k9=>iW (dg (psum h 16) k9))) 224)] _:=MM9.eqA 1 rfl (by rw [show fc 16 (fun k9=>iW (dg (psum h 16) k9))=fc 16 (fun k9=>iW (if k9<16 then dg (psum h 16) k9 else h k9))from fc_cong fun k hk=>vI (if_pos hk).symm] <;> rfl)
   refine tN ?_
   have hov:psum h 16/65536^16≤1125899906842624:=by have h9:=HI.over;rw [←HI.sum]at h9;exact h9
   have hd0:=dg_lt (psum h 16) 0
   refine rg_c FF9 MMr15 [(0,w_ 1),(0,l_ 1 (iW (dg (psum h 16) 0))),(1,w_ 1),(0,w_ 1),(0,w_ 1),(0,s_ 1 (.cells (fc 16 (fun k9=>iW (if k9=0 then(dg (psum h 16) 0)+(38*(psum h 16/65536^16))else dg (psum h 16) k9))) 224))] 6 [] [] (⟨by decide,rfl,(fc_get _ (by omega)),by omega,by omega,by decide,rfl,(by rw [fc_size];decide),(.inl rfl),(fc_setU _ _ _ _),fun _ _ FF16 MM16=>?_⟩)
   have MMr17:MemS _ _ _ [_,(bx,.cells (fc 16 (fun k9=>iW (hOf (psum h 16) k9))) 224)] _:=MM16.eqA 1 rfl (by rw [show fc 16 (fun k9=>iW (hOf (psum h 16) k9))=fc 16 (fun k9=>iW (if k9=0 then(dg (psum h 16) 0)+(38*(psum h 16/65536^16))else dg (psum h 16) k9))from fc_cong fun k _=>vI (hOf_put (psum h 16) k)] <;> rfl)
   refine inb_n (tN ?_)
   refine rg_c FF16 MMr17 [] 6 [] [] (⟨by omega,fun _ _ FF18 MM18=>?_⟩)
   have hdo:=cnt_of (FF18.get 0 rfl)
   refine tN ⟨⟨r+1,hOf (psum h 16),by omega,HI.step,FF18.pick [0,3,4],MM18⟩,?_⟩
   rw [hco,hdo];omega
 ·skip
  refine tN (.inr ⟨(FF4.ev 0 rfl).trans (dec_f hlto),?_⟩)
  obtain rfl:r=3:=by omega
  have MMr19:MemS _ _ _ [_,(bx,.cells (fc 16 (fun k9=>iW (dg (fold (fold (psum h0 16))) k9))) 224)] _:=MM4.eqA 1 rfl (by rw [show fc 16 (fun k9=>iW (dg (fold (fold (psum h0 16))) k9))=fc 16 (fun k9=>iW (h k9))from fc_cong fun k hk=>vI (HI.done H0.over k hk).symm] <;> rfl)
  refine tN ?_
  refine wp_seq (rg_c FF4 MMr19 [(0,b_ 1),(0,b_ 0)] 4 [] [] (⟨rfl,(fc_size _ _),rfl,((cZ _ _).trans (List.length_replicate ..)),(fc_size _ _),(fc_one fun _=>rfl),rfl,fun _ _ FF20 MM20=>tN ?_⟩))
  refine wp_ret ?_
  repeat first | refine tR ?_ | refine iR ?_
  exact(retc FF20 MM20 (k:=16) (i:=0) (j:=1) Tryz.results185 rfl rfl Tryz.underlying224 rfl (by kernel_rfl) (fc_size _ _) ⟨rfl,MM20.below⟩)
def subQ (n:Nat):Nat→Nat
 | 0=>n
 | r+1=>sub1 (subQ n r)
theorem bw_16 (n:Nat)(hn:n<q256):bw (dg n) pd 16=(if n<pN then 1 else 0)∧(¬n<pN→∀j,j<16→bd (dg n) pd j=dg (n-pN) j):=by
 have h:=bw_spec (dg n) pd 16 (fun j _=>dg_lt n j) (fun j _=>pd_lt j)
 have hl:=psum_lt (h:=bd (dg n) pd) 16 (fun j _=>bd_lt _ _ j)
 rw [pd_psum,psum_dg,show(65536:Nat)^16=q256 from rfl,Nat.mod_eq_of_lt hn]at h
 rw [show(65536:Nat)^16=q256 from rfl]at hl
 have hb:=bw_le (dg n) pd 16
 have hp:pN<q256:=by decide
 have e:bw (dg n) pd 16=(if n<pN then 1 else 0):=by
  generalize bw (dg n) pd 16=b at *
  have:b=0∨b=1:=by omega
  rcases this with rfl | rfl
  ·rw [if_neg (by omega)]
  ·split
   ·rfl
   ·omega
 refine⟨e,fun hnp j hj=>?_⟩
 rw [e,if_neg hnp,Nat.zero_mul,Nat.add_zero]at h
 have e2:psum (bd (dg n) pd) 16=n-pN:=by omega
 rw [←e2]
 exact(dg_eq 16 j hj (fun j _=>bd_lt _ _ j)).symm
theorem rcarry_any (h:Nat→Nat)(hh:∀j,j<16→h j<1125899906842624)(w:World):Calls Tryz.prog 185 #[.agg (fc 16 (fun k9=>iW (h k9)))] w fun e w'=>e=.returned (.agg (fc 16 (fun k9=>iW (dg (fold (fold (psum h 16))) k9))))∧Below w.heap.size w w':=
 rcarry_raw h ⟨fun j hj=>Nat.lt_of_lt_of_le (hh j hj) (by omega),rfl,psum_div (by omega) 16 hh,fun _ h=>by omega⟩ w
theorem put_lt1 (f:Nat→Nat)(i k:Nat):(if k<i+1 then f k else 0)=if k=i then f i else if k<i then f k else 0:=by
 by_cases e:k=i
 ·subst e;rw [if_pos rfl,if_pos (Nat.lt_succ_self k)]
 ·rw [if_neg e]
  by_cases l:k<i
  ·rw [if_pos l,if_pos (by omega)]
  ·rw [if_neg l,if_neg (by omega)]
theorem z16 (f:Nat→Nat):Value.agg #[.int .u64 0,.int .u64 0,.int .u64 0,.int .u64 0,.int .u64 0,.int .u64 0,.int .u64 0,.int .u64 0,.int .u64 0,.int .u64 0,.int .u64 0,.int .u64 0,.int .u64 0,.int .u64 0,.int .u64 0,.int .u64 0]=.agg (fc 16 fun k9=>iW (if k9<0 then f k9 else 0:Nat)):=rfl
theorem and16 (x:Nat):x &&& 65535=x%65536:=Nat.and_two_pow_sub_one_eq_mod x 16
theorem sub1_le (n:Nat):sub1 n≤n:=by unfold sub1;split <;> omega
theorem subQ_lt {N:Nat}(h:N<q256):∀r,subQ N r<q256
 | 0=>h
 | r+1=>Nat.lt_of_le_of_lt (sub1_le _) (subQ_lt h r)
theorem sub_yes {N r:Nat}(h:subQ N r<pN):subQ N (r+1)=subQ N r:=if_pos h
theorem sub_no {N r:Nat}(h:¬subQ N r<pN):subQ N (r+1)=subQ N r-pN:=if_neg h
theorem rprime_any (i:Nat)(w0:World) :
  Calls Tryz.prog 157 #[iN i] w0 fun e w'=>e=.returned (iW (pd i))∧Below w0.heap.size w0 w':=by
 refine eF Tryz.func157 rfl Tryz.ntmps157 (by simp) fun ac (FF:Fr 8 ac [(0,iN i)])=>?_
 have MM:=MemS.start w0
 refine wp_seq (rg_c FF MM [] 3 [] [] (fun _ _ FF1 MM1=>tN ?_))
 refine wp_seq ?_
 refine wp_seq (rg_c FF1 MM1 [] 4 [] [0] (fun _ _ FF2 MM2=>tN ?_))
 refine wp_block ?_
 by_cases h0:i=0
 ·skip
  refine wp_seq (rg_c FF2 MM2 [(0,w_ 2)] 5 [] [] (⟨h0,fun _ _ FF3 MM3=>tN ?_⟩))
  refine wp_cond_true (FF3.ev 0 rfl) ?_
  refine wp_seq (rg_c FF3 MM3 [] 4 [] [] (fun _ _ FF4 MM4=>tN ?_))
  refine wp_ret ?_
  repeat first | refine tR ?_ | refine iR ?_
  exact(ret_fr FF4 0 Tryz.results157 rfl ⟨by rw [pd,if_pos h0],MM4.below⟩)
 ·skip
  refine wp_seq (rg_c FF2 MM2 [(0,w_ 3)] 5 [] [] (⟨h0,fun _ _ FF5 MM5=>tN ?_⟩))
  refine wp_cond_false (FF5.ev 0 rfl) ?_
  by_cases h15:i=15
  ·skip
   refine wp_seq (rg_c FF5 MM5 [(0,w_ 2)] 4 [6] [] (⟨h15,fun _ _ FF6 MM6=>tN ?_⟩))
   refine wp_cond_true (FF6.ev 0 rfl) ?_
   refine wp_seq (rg_c FF6 MM6 [] 4 [] [] (fun _ _ FF7 MM7=>tN ?_))
   refine wp_ret ?_
   repeat first | refine tR ?_ | refine iR ?_
   exact(ret_fr FF7 0 Tryz.results157 rfl ⟨by rw [pd,if_neg h0,if_pos h15],MM7.below⟩)
  ·skip
   refine wp_seq (rg_c FF5 MM5 [(0,w_ 3)] 4 [6] [] (⟨h15,fun _ _ FF8 MM8=>tN ?_⟩))
   refine wp_cond_false (FF8.ev 0 rfl) ?_
   refine wp_skip ?_
   refine inb_n ?_
   refine tN ?_
   refine wp_seq (rg_c FF8 MM8 [] 4 [] [] (fun _ _ FF9 MM9=>tN ?_))
   refine wp_ret ?_
   repeat first | refine tR ?_ | refine iR ?_
   exact(ret_fr FF9 0 Tryz.results157 rfl ⟨by rw [pd,if_neg h0,if_neg h15],MM9.below⟩)
set_option maxHeartbeats 1000000 in
theorem rfull_any (h:Nat→Nat)(hh:∀j,j<16→h j<1125899906842624)(w0:World) :
  Calls Tryz.prog 156 #[.agg (fc 16 (fun k9=>iW (h k9)))] w0 fun e w'=>e=.returned (.agg (fc 16 (fun k9=>iW (dg (psum h 16%pN) k9))))∧Below w0.heap.size w0 w':=by
 refine eF Tryz.func156 rfl Tryz.ntmps156 (by simp) fun ac (FF:Fr 39 ac [(0,.agg (fc 16 (fun k9=>iW (h k9))))])=>?_
 have MM:=MemS.start w0
 have hov:=psum_div (h:=h) (B:=1125899906842624) (by decide) 16 hh
 obtain⟨N,hN⟩:∃N,fold (fold (psum h 16))=N:=⟨_,rfl⟩
 have hNl:N<q256:=hN▸(fold_fold (V:=psum h 16) hov).1
 have hN3:subQ N 3=psum h 16%pN:=by show sub1 (sub1 (sub1 N))=_;rw [sub3 hNl,←hN,fold_mod,fold_mod]
 refine wp_seq (rg_c FF MM [(0,s_ 0 (.cells (fc 16 (fun k9=>iW (h k9))) 224)),(0,s_ 0 (.cells (cn .u64 (List.replicate 16 0)) 224))] 3 [] [0] (⟨(by kernel_rfl),fun bx=>⟨(by kernel_rfl),fun br=>fun _ _ FF1 MM1=>tN ?_⟩⟩))
 refine wp_seq (rg_c FF1 MM1 [(0,b_ 1),(0,t_ (.agg (fc 16 (fun k9=>iW (dg N k9))))),(0,b_ 1)] 3 [] [] (⟨rfl,(fc_size _ _),(cP en_rcarry (fun w=>by have h0:=rcarry_any h hh w;rw [hN]at h0;exact h0) _),rfl,(fc_size _ _),(fc_size _ _),(fc_one fun _=>rfl),rfl,fun _ _ FF2 MM2=>tN ?_⟩))
 refine wp_seq ?_
 refine wp_seq (rg_c FF2 MM2 [] 4 [] [] (fun _ _ FF3 MM3=>tN ?_))
 have MMr4:MemS _ _ _ [_,(bx,.cells (fc 16 (fun k9=>iW (dg (subQ N 0) k9))) 224)] _:=MM3.eqA 1 rfl (by rw [show fc 16 (fun k9=>iW (dg (subQ N 0) k9))=fc 16 (fun k9=>iW (dg N k9))from fc_cong fun k _=>rfl] <;> rfl)
 refine wp_for2 (fun a' w'=>∃r:Nat,r≤3∧Fr 39 a' [(3,iN r),(2,pT br),(1,pT bx)]∧MemS (fun k=>k<w0.heap.size) w0 w' [(br,.cells (cn .u64 (List.replicate 16 0)) 224),(bx,.cells (fc 16 (fun k9=>iW (dg (subQ N r) k9))) 224)] []) (fun a' _=>(3-cnt 3 a').toNat) ⟨0,Nat.zero_le _,FF3.pick [0,1,2],MMr4⟩ ?_
 rintro ac5 wd5 ⟨r,hr,FF5,MM5⟩
 have hco:=cnt_of (FF5.get 0 rfl)
 refine rg_c FF5 MM5 [] 4 [11] [] (fun _ _ FF6 MM6=>?_)
 by_cases hlto:r<3
 ·skip
  refine tN (.inl ⟨(FF6.ev 0 rfl).trans (dec_t hlto),?_⟩)
  have hb16:=bw_16 (subQ N r) (subQ_lt hNl r)
  refine wp_seq (rg_c FF6 MM6 [(0,t_ (.agg (fc 16 (fun k9=>iW (if k9<0 then bd (dg (subQ N r)) pd k9 else 0))))),(0,s_ 0 (.cells (cn .u64 (List.replicate 16 0)) 224)),(0,b_ 0)] 5 [] [] (⟨(Eq.trans (show _=some (cn .u64 (List.replicate 16 0))by kernel_rfl) (congrArg some (Value.agg.inj (z16 _)))),(by kernel_rfl),fun bb=>⟨rfl,((cZ _ _).trans (List.length_replicate ..)),(fc_size _ _),(fc_one fun _=>rfl),rfl,fun _ _ FF7 MM7=>tN ?_⟩⟩))
  refine wp_seq (rg_c FF7 MM7 [(0,t_ (iW (bw (dg (subQ N r)) pd 0)))] 6 [] [] (⟨(vI rfl),fun _ _ FF8 MM8=>tN ?_⟩))
  refine wp_seq ?_
  refine wp_seq (rg_c FF8 MM8 [] 7 [] [] (fun _ _ FF9 MM9=>tN ?_))
  refine wp_for2 (fun a' w'=>∃i:Nat,i≤16∧Fr 39 a' [(6,iN i),(5,iW (bw (dg (subQ N r)) pd i)),(4,pT bb),(3,iN r),(2,pT br),(1,pT bx)]∧MemS (fun k=>k<w0.heap.size) w0 w' [(bb,.cells (fc 16 (fun k9=>iW (if k9<i then bd (dg (subQ N r)) pd k9 else 0))) 224),(br,.cells (cn .u64 (List.replicate 16 0)) 224),(bx,.cells (fc 16 (fun k9=>iW (dg (subQ N r) k9))) 224)] []) (fun a' _=>(16-cnt 6 a').toNat) ⟨0,Nat.zero_le _,FF9.pick [0,1,2,3,4,5],MM9⟩ ?_
  rintro ac10 wd10 ⟨i,hi,FF10,MM10⟩
  have hc:=cnt_of (FF10.get 0 rfl)
  refine rg_c FF10 MM10 [] 7 [16] [] (fun _ _ FF11 MM11=>?_)
  by_cases hlt:i<16
  ·skip
   refine tN (.inl ⟨(FF11.ev 0 rfl).trans (dec_t hlt),?_⟩)
   have hd1:=dg_lt (subQ N r) i
   have hp1:=pd_lt i
   have hb1:=bw_le (dg (subQ N r)) pd i
   refine wp_seq (rg_dc 10 FF11 MM11 [(1,w_ 1),(0,l_ 2 (iW (dg (subQ N r) i))),(0,w_ 1),(1,t_ (iW (pd i))),(0,w_ 1),(1,w_ 1)] [] 8 [] [] (⟨by omega,rfl,(fc_get _ (by omega)),by omega,(cP en_rprime (rprime_any i) _),by omega,(by have:=pd_lt i;omega),by omega,(by have:=pd_lt i;omega),fun _ _ FF12 MM12=>tN ?_⟩))
   refine wp_seq (rg_c FF12 MM12 [(2,t_ (iW (bd (dg (subQ N r)) pd i))),(0,w_ 1),(0,s_ 0 (.cells (fc 16 (fun k9=>iW (if k9=i then bd (dg (subQ N r)) pd i else(if k9<i then bd (dg (subQ N r)) pd k9 else 0)))) 224))] 8 [] [] (⟨by omega,by decide,(vI (and16 _)),by omega,rfl,(by rw [fc_size];omega),(.inl rfl),(fc_setU _ _ _ _),fun _ _ FF13 MM13=>tN ?_⟩))
   have MMr14:MemS _ _ _ [(bb,.cells (fc 16 (fun k9=>iW (if k9<i+1 then bd (dg (subQ N r)) pd k9 else 0))) 224),_,_] _:=MM13.eqA 0 rfl (by rw [show fc 16 (fun k9=>iW (if k9<i+1 then bd (dg (subQ N r)) pd k9 else 0))=fc 16 (fun k9=>iW (if k9=i then bd (dg (subQ N r)) pd i else(if k9<i then bd (dg (subQ N r)) pd k9 else 0)))from fc_cong fun k _=>vI (put_lt1 (bd (dg (subQ N r)) pd) i k)] <;> rfl)
   refine rg_c FF13 MMr14 [(1,t_ (iW (((((dg (subQ N r) i)+65536)-(pd i))-(bw (dg (subQ N r)) pd i))/65536))),(0,u_ 1 (iW (bw (dg (subQ N r)) pd (i+1))))] 8 [] [] (⟨by decide,rfl,by omega,(by have:=pd_lt i;omega),(vI rfl),fun _ _ FF15 MM15=>?_⟩)
   refine inb_n (tN ?_)
   refine rg_c FF15 MM15 [] 8 [] [] (⟨by omega,fun _ _ FF16 MM16=>?_⟩)
   have hd:=cnt_of (FF16.get 0 rfl)
   refine tN ⟨⟨i+1,by omega,FF16.pick [0,1,3,4,5,6],MM16⟩,?_⟩
   rw [hc,hd];omega
  ·skip
   refine tN (.inr ⟨(FF11.ev 0 rfl).trans (dec_f hlt),?_⟩)
   obtain rfl:i=16:=by omega
   have MMr17:MemS _ _ _ [(bb,.cells (fc 16 (fun k9=>iW (bd (dg (subQ N r)) pd k9))) 224),_,_] _:=MM11.eqA 0 rfl (by rw [show fc 16 (fun k9=>iW (bd (dg (subQ N r)) pd k9))=fc 16 (fun k9=>iW (if k9<16 then bd (dg (subQ N r)) pd k9 else 0))from fc_cong fun k hk=>vI (if_pos hk).symm] <;> rfl)
   refine tN ?_
   by_cases hp:subQ N r<pN
   ·skip
    have hb9:=hb16.1
    rw [if_pos hp]at hb9
    refine wp_seq (rg_c FF11 MMr17 [(1,w_ 3)] 7 [36] [] (⟨by omega,fun _ _ FF18 MM18=>tN ?_⟩))
    have MMr19:MemS _ _ _ [_,_,(bx,.cells (fc 16 (fun k9=>iW (dg (subQ N (r+1)) k9))) 224)] _:=MM18.eqA 2 rfl (by rw [show fc 16 (fun k9=>iW (dg (subQ N (r+1)) k9))=fc 16 (fun k9=>iW (dg (subQ N r) k9))from fc_cong fun k _=>by rw [sub_yes hp]] <;> rfl)
    refine wp_cond_false (FF18.ev 0 rfl) ?_
    refine wp_skip ?_
    refine inb_n (tN ?_)
    refine rg_c FF18 MMr19 [] 7 [] [] (⟨by omega,fun _ _ FF20 MM20=>?_⟩)
    have hdo:=cnt_of (FF20.get 0 rfl)
    refine tN ⟨⟨r+1,by omega,FF20.pick [0,4,5],MM20.sub [1,2] rfl⟩,?_⟩
    rw [hco,hdo];omega
   ·skip
    have hb9:=hb16.1
    rw [if_neg hp]at hb9
    refine wp_seq (rg_c FF11 MMr17 [(1,w_ 2)] 7 [36] [] (⟨by omega,fun _ _ FF21 MM21=>tN ?_⟩))
    refine wp_cond_true (FF21.ev 0 rfl) ?_
    refine rg_c FF21 MM21 [(0,b_ 0),(0,b_ 2)] 7 [] [] (⟨rfl,(fc_size _ _),rfl,(fc_size _ _),(fc_size _ _),(fc_one fun _=>rfl),rfl,fun _ _ FF22 MM22=>?_⟩)
    have MMr23:MemS _ _ _ [_,_,(bx,.cells (fc 16 (fun k9=>iW (dg (subQ N (r+1)) k9))) 224)] _:=MM22.eqA 2 rfl (by rw [show fc 16 (fun k9=>iW (dg (subQ N (r+1)) k9))=fc 16 (fun k9=>iW (bd (dg (subQ N r)) pd k9))from fc_cong fun k hk=>by rw [sub_no hp,(hb16.2 hp) k hk]] <;> rfl)
    refine inb_n (tN ?_)
    refine rg_c FF22 MMr23 [] 7 [] [] (⟨by omega,fun _ _ FF24 MM24=>?_⟩)
    have hdo:=cnt_of (FF24.get 0 rfl)
    refine tN ⟨⟨r+1,by omega,FF24.pick [0,4,5],MM24.sub [1,2] rfl⟩,?_⟩
    rw [hco,hdo];omega
 ·skip
  refine tN (.inr ⟨(FF6.ev 0 rfl).trans (dec_f hlto),?_⟩)
  obtain rfl:r=3:=by omega
  have MMr25:MemS _ _ _ [_,(bx,.cells (fc 16 (fun k9=>iW (dg (psum h 16%pN) k9))) 224)] _:=MM6.eqA 1 rfl (by rw [show fc 16 (fun k9=>iW (dg (psum h 16%pN) k9))=fc 16 (fun k9=>iW (dg (subQ N 3) k9))from fc_cong fun k hk=>by rw [hN3]] <;> rfl)
  refine tN ?_
  refine wp_seq (rg_c FF6 MMr25 [(0,b_ 1),(0,b_ 0)] 4 [] [] (⟨rfl,(fc_size _ _),rfl,((cZ _ _).trans (List.length_replicate ..)),(fc_size _ _),(fc_one fun _=>rfl),rfl,fun _ _ FF26 MM26=>tN ?_⟩))
  refine wp_ret ?_
  repeat first | refine tR ?_ | refine iR ?_
  exact(retc FF26 MM26 (k:=16) (i:=0) (j:=1) Tryz.results156 rfl rfl Tryz.underlying224 rfl (by kernel_rfl) (fc_size _ _) ⟨rfl,MM26.below⟩)
theorem put_ltg (f g:Nat→Nat)(i k:Nat):(if k<i+1 then f k else g k)=if k=i then f i else if k<i then f k else g k:=by
 rw [put_lt2 f g i 0 k]
 by_cases e:k=i
 ·rw [if_pos e,if_pos e]
 ·rw [if_neg e,if_neg e,if_neg e]
theorem bd_prime (y:Nat)(hy:y≤pN):∀j,j<16→bd pd (dg y) j=dg (pN-y) j:=by
 have hq:y<q256:=Nat.lt_of_le_of_lt hy (by decide)
 have h:=bw_spec pd (dg y) 16 (fun j _=>pd_lt j) (fun j _=>dg_lt y j)
 have hl:=psum_lt (h:=bd pd (dg y)) 16 (fun j _=>bd_lt _ _ j)
 rw [pd_psum,psum_dg,show(65536:Nat)^16=q256 from rfl,Nat.mod_eq_of_lt hq]at h
 rw [show(65536:Nat)^16=q256 from rfl]at hl
 have hb:=bw_le pd (dg y) 16
 have hp:pN<q256:=by decide
 have e2:psum (bd pd (dg y)) 16=pN-y:=by
  generalize bw pd (dg y) 16=b at *
  have:b=0∨b=1:=by omega
  rcases this with rfl | rfl <;> omega
 intro j hj
 rw [←e2]
 exact(dg_eq 16 j hj (fun j _=>bd_lt _ _ j)).symm
def sm (n j:Nat):Nat:=if j=0 then n%65536 else if j=1 then n/65536%65536 else if j=2 then n/4294967296%65536 else if j=3 then n/281474976710656 else 0
theorem psum_sm (n:Nat):psum (sm n) 16=n:=by
 have e:psum (sm n) 16=psum (sm n) 4+65536^4*psum (fun j=>sm n (4+j)) 12:=psum_split (sm n) 4 12
 have z:psum (fun j=>sm n (4+j)) 12=psum (fun _=>0) 12:=psum_congr 12 (fun j _=>by unfold sm;rw [if_neg (by omega),if_neg (by omega),if_neg (by omega),if_neg (by omega)])
 have z2:psum (fun _=>0) 12=0:=by decide
 rw [e,z,z2,Nat.mul_zero,Nat.add_zero]
 simp only [psum,sm,Nat.reducePow,Nat.reduceEqDiff,if_true,if_false]
 simp
 omega
def kd (ks:List Nat)(j:Nat):Nat:=ks.getD (2*j) 0+ks.getD (2*j+1) 0*256
def kd' (ks:List Nat)(j:Nat):Nat:=if j=15 then kd ks 15%32768 else kd ks j
theorem psum_single (k v:Nat):∀n,psum (fun m=>if m=k then v else 0) n=if k<n then v*65536^k else 0
 | 0=>by rw [if_neg (by omega)];rfl
 | n+1=>by
  show psum (fun m=>if m=k then v else 0) n+(if n=k then v else 0)*65536^n=_
  rw [psum_single k v n]
  by_cases e:n=k
  ·subst e;rw [if_neg (by omega),if_pos rfl,if_pos (by omega),Nat.zero_add]
  ·rw [if_neg e,Nat.zero_mul,Nat.add_zero]
   by_cases h:k<n
   ·rw [if_pos h,if_pos (by omega)]
   ·rw [if_neg h,if_neg (by omega)]
theorem psum_upd (T:Nat→Nat)(k v n:Nat)(h:k<n):psum (fun m=>if m=k then T k+v else T m) n=psum T n+v*65536^k:=by
 have e:psum (fun m=>if m=k then T k+v else T m) n=psum (fun m=>T m+(if m=k then v else 0)) n:=psum_congr n fun j _=>by
  by_cases e:j=k
  ·rw [if_pos e,if_pos e,e]
  ·rw [if_neg e,if_neg e,Nat.add_zero]
 rw [e,psum_add,psum_single,if_pos h]
structure MulI (F G:Nat→Nat)(i k:Nat)(T:Nat→Nat):Prop where
 sum:psum T 32=psum F i*psum G 16+F i*65536^i*psum G k
 bd:∀m,T m≤(16*i+k)*4294967296
theorem MulI.start (F G:Nat→Nat):MulI F G 0 0 (fun _=>0):=⟨by simp [psum],fun _=>Nat.zero_le _⟩
theorem MulI.step {F G T:Nat→Nat}{i k:Nat}(h:MulI F G i k T)(hi:i<16)(hk:k<16)(hF:F i<65536)(hG:G k<65536):MulI F G i (k+1) (fun m=>if m=i+k then T (i+k)+F i*G k else T m):=by
 have hp:F i*G k≤4294967296:=Nat.le_trans (Nat.mul_le_mul (Nat.le_of_lt hF) (Nat.le_of_lt hG)) (by decide)
 refine⟨?_,fun m=>?_⟩
 ·rw [psum_upd T (i+k) _ 32 (by omega),h.sum]
  show _=psum F i*psum G 16+F i*65536^i*(psum G k+G k*65536^k)
  rw [Nat.mul_add,Nat.add_assoc,Nat.pow_add]
  congr 2
  rw [Nat.mul_assoc,Nat.mul_assoc,Nat.mul_left_comm (G k)]
 ·have:=h.bd m
  have h2:=h.bd (i+k)
  show(if m=i+k then T (i+k)+F i*G k else T m)≤_
  rw [←Nat.add_assoc,Nat.add_mul,Nat.one_mul]
  by_cases e:m=i+k
  ·rw [if_pos e];exact Nat.add_le_add h2 hp
  ·rw [if_neg e];exact Nat.le_trans this (Nat.le_add_right _ _)
theorem MulI.next {F G T:Nat→Nat}{i:Nat}(h:MulI F G i 16 T):MulI F G (i+1) 0 T:=by
 refine⟨?_,fun m=>by have:=h.bd m;omega⟩
 rw [h.sum]
 show _=(psum F i+F i*65536^i)*psum G 16+_*0
 rw [Nat.add_mul,Nat.mul_zero,Nat.add_zero]
theorem mul_fold (T:Nat→Nat):psum (fun j=>T j+38*T (j+16)) 16%pN=psum T 32%pN:=by
 have e1:psum (fun j=>T j+38*T (j+16)) 16=psum T 16+38*psum (fun j=>T (16+j)) 16:=by
  rw [psum_add T (fun j=>38*T (j+16)),psum_scale 38 (fun j=>T (j+16))]
  rw [show psum (fun j=>T (j+16)) 16=psum (fun j=>T (16+j)) 16 from psum_congr 16 fun j _=>by rw [Nat.add_comm]]
 have e2:psum T 32=psum T 16+65536^16*psum (fun j=>T (16+j)) 16:=psum_split T 16 16
 rw [e1,e2,show(65536:Nat)^16=38+pN*2 by decide,Nat.add_mul,Nat.mul_assoc,←Nat.add_assoc,Nat.add_mul_mod_self_left]
theorem top_cut (lo t:Nat)(h:lo<281474976710656):(lo+t*281474976710656)%9223372036854775808=lo+(t%32768)*281474976710656:=by omega
theorem psum_kd (ks:List Nat)(h:KBytes ks):psum (kd' ks) 16=numOf ks:=by
 have h24:=h.2 24
 have h25:=h.2 25
 have h26:=h.2 26
 have h27:=h.2 27
 have h28:=h.2 28
 have h29:=h.2 29
 have e:=top_cut (ks.getD 24 0+ks.getD 25 0*256+ks.getD 26 0*65536+ks.getD 27 0*16777216+ks.getD 28 0*4294967296+ks.getD 29 0*1099511627776) (ks.getD 30 0+ks.getD 31 0*256) (by omega)
 have e2:wordTo ks 24 8%9223372036854775808=(ks.getD 24 0+ks.getD 25 0*256+ks.getD 26 0*65536+ks.getD 27 0*16777216+ks.getD 28 0*4294967296+ks.getD 29 0*1099511627776)+((ks.getD 30 0+ks.getD 31 0*256)%32768)*281474976710656:=by
  rw [←e]
  congr 1
  simp only [wordTo,Nat.reducePow,Nat.reduceAdd,Nat.add_zero]
  omega
 unfold numOf
 rw [e2]
 simp only [psum,kd',kd,wordTo,mk4,Nat.reducePow,Nat.reduceAdd,Nat.reduceMul,Nat.add_zero,if_true,Nat.reduceEqDiff,if_false]
 clear e e2 h24 h25 h26 h27 h28 h29
 generalize (ks.getD 30 0+ks.getD 31 0*256)%32768=t
 omega
theorem pN_q:pN<q256:=by decide
theorem invTo_q (x j:Nat):invTo x j<q256:=by rw [q256_top];exact invTo_lt x j
theorem invTo_one (x:Nat)(hx:x<pN):invTo x 1=x:=by
 show(if(0:Nat)=252∨(0:Nat)=250 then _ else(1*1%pN)*x%pN)=x
 rw [if_neg (by omega),show 1*1%pN=1 by decide,Nat.one_mul,Nat.mod_eq_of_lt hx]
def byteN (n j:Nat):Nat:=n/256^j%256
theorem mod_cut (m R k:Nat)(hk:0<k):m%256^(R+k)/256^R%256=m/256^R%256:=by
 rw [Nat.pow_add,Nat.mod_mul_right_div_self]
 obtain⟨k',rfl⟩:∃k',k=k'+1:=⟨k-1,by omega⟩
 rw [Nat.pow_succ,Nat.mod_mul_left_mod]
theorem dg_byte (n q r:Nat)(hr:r<2):dg n q/256^r%256=byteN n (2*q+r):=by
 unfold dg byteN
 rw [show(65536:Nat)^q=256^(2*q)by rw [Nat.pow_mul],show(65536:Nat)=256^(r+(2-r))by rw [show r+(2-r)=2 by omega],mod_cut _ _ _ (by omega),Nat.div_div_eq_div_mul,←Nat.pow_add]
theorem wq_eq (n q:Nat)(hq:q≤3):wq n q=n/256^(8*q)%256^8:=by
 have e8:(256:Nat)^8=18446744073709551616:=by decide
 obtain rfl | rfl | rfl | rfl:q=0∨q=1∨q=2∨q=3:=by omega
 ·simp [wq,fw0]
 ·rw [show 8*1=8 from rfl,e8];rfl
 ·rw [show 8*2=8+8 from rfl,Nat.pow_add,←Nat.div_div_eq_div_mul,e8];rfl
 ·rw [show 8*3=8+8+8 from rfl,Nat.pow_add,Nat.pow_add,←Nat.div_div_eq_div_mul,←Nat.div_div_eq_div_mul,e8];rfl
theorem kb_byte (n j:Nat)(hj:j<32):kb n j=byteN n j:=by
 unfold kb byteN
 have h8:j%8+(8-j%8)=8:=by have:=Nat.mod_lt j (show 0<8 by omega);omega
 rw [wq_eq n (j/8) (by omega)]
 have:=mod_cut (n/256^(8*(j/8))) (j%8) (8-j%8) (by have:=Nat.mod_lt j (show 0<8 by omega);omega)
 rw [h8]at this
 rw [this,Nat.div_div_eq_div_mul,←Nat.pow_add,Nat.div_add_mod]
theorem sm_fc (n:Nat):Value.agg #[iW (n%65536),iW (n/65536%65536),iW (n/4294967296%65536),iW (n/281474976710656),.int .u64 0,.int .u64 0,.int .u64 0,.int .u64 0,.int .u64 0,.int .u64 0,.int .u64 0,.int .u64 0,.int .u64 0,.int .u64 0,.int .u64 0,.int .u64 0]=.agg (fc 16 (fun k9=>iW (sm n k9))):=by
 rw [show fc 16 (fun k9=>iW (sm n k9))=#[iW (sm n 0),iW (sm n 1),iW (sm n 2),iW (sm n 3),iW (sm n 4),iW (sm n 5),iW (sm n 6),iW (sm n 7),iW (sm n 8),iW (sm n 9),iW (sm n 10),iW (sm n 11),iW (sm n 12),iW (sm n 13),iW (sm n 14),iW (sm n 15)]from rfl]
 simp [sm]
theorem z32:Value.agg #[.int .u64 0,.int .u64 0,.int .u64 0,.int .u64 0,.int .u64 0,.int .u64 0,.int .u64 0,.int .u64 0,.int .u64 0,.int .u64 0,.int .u64 0,.int .u64 0,.int .u64 0,.int .u64 0,.int .u64 0,.int .u64 0,.int .u64 0,.int .u64 0,.int .u64 0,.int .u64 0,.int .u64 0,.int .u64 0,.int .u64 0,.int .u64 0,.int .u64 0,.int .u64 0,.int .u64 0,.int .u64 0,.int .u64 0,.int .u64 0,.int .u64 0,.int .u64 0]=.agg (fc 32 fun k9=>iW (0*k9:Nat)):=by
 rw [show(fc 32 fun k9=>iW (0*k9:Nat))=fc 32 (fun _=>iW (0:Nat))from fc_cong fun k _=>vI (Nat.zero_mul k)]
 rfl
theorem kd_lt {ks:List Nat}(hk:KBytes ks)(j:Nat):kd' ks j<1125899906842624:=by
 have h1:=hk.2 (2*j)
 have h2:=hk.2 (2*j+1)
 have h3:kd ks j<65536:=by unfold kd;omega
 unfold kd'
 split
 ·have:=Nat.mod_lt (kd ks 15) (show 0<32768 by decide);omega
 ·omega
theorem and15 (x:Nat):x &&& 32767=x%32768:=Nat.and_two_pow_sub_one_eq_mod x 15
def keyU (n i:Nat):List Nat:=(List.range 32).map fun j=>if j<2*i then byteN n j else 0
theorem keyU_len (n i:Nat):(keyU n i).length=32:=by simp [keyU]
theorem keyU_get (n i:Nat){j:Nat}(h:j<32):(keyU n i).getD j 0=if j<2*i then byteN n j else 0:=by simp [keyU,h]
theorem keyU_all (n:Nat):keyU n 16=keyL n:=List.map_congr_left fun j hj=>by
 have h:j<32:=by simpa using hj
 rw [if_pos (by omega),kb_byte n j h]
theorem keyU_step (n:Nat){i:Nat}(hi:i<16):((keyU n i).set (2*i) (byteN n (2*i))).set (2*i+1) (byteN n (2*i+1))=keyU n (i+1):=by
 refine ext_getD (by simp [keyU]) fun j hj=>?_
 simp only [List.length_set,keyU_len]at hj
 simp only [getD_set,List.length_set,keyU_len]
 rw [keyU_get n i hj,keyU_get n (i+1) hj]
 by_cases h1:2*i+1=j
 ·rw [if_pos ⟨h1,by omega⟩,if_pos (by omega),←h1]
 rw [if_neg (fun q=>h1 q.1)]
 by_cases h0:2*i=j
 ·rw [if_pos ⟨h0,by omega⟩,if_pos (by omega),←h0]
 rw [if_neg (fun q=>h0 q.1)]
 by_cases h:j<2*i
 ·rw [if_pos h,if_pos (by omega)]
 ·rw [if_neg h,if_neg (by omega)]
theorem dg_b0 (n i:Nat):dg n i%256=byteN n (2*i):=by have:=dg_byte n i 0 (by decide);simpa using this
theorem dg_b1 (n i:Nat):dg n i/256%256=byteN n (2*i+1):=by have:=dg_byte n i 1 (by decide);simpa using this
theorem rSmall_any (n:Nat)(hn:n<18446744073709551616)(w0:World) :
  Calls Tryz.prog 125 #[iW n] w0 fun e w'=>e=.returned (.agg (fc 16 (fun k9=>iW (dg n k9))))∧Below w0.heap.size w0 w':=by
 refine eF Tryz.func125 rfl Tryz.ntmps125 (by simp) fun ac (FF:Fr 15 ac [(0,iW n)])=>?_
 have MM:=MemS.start w0
 refine wp_seq (rg_c FF MM [(0,s_ 0 (.cells (cn .u64 (List.replicate 16 0)) 224))] 3 [] [] (⟨(by kernel_rfl),fun br=>fun _ _ FF1 MM1=>tN ?_⟩))
 refine wp_seq (rg_c FF1 MM1 [(1,t_ (iW (n%65536))),(1,t_ (iW (n/65536))),(0,t_ (iW (n/65536%65536))),(1,t_ (iW (n/4294967296))),(0,t_ (iW (n/4294967296%65536))),(1,t_ (iW (n/281474976710656))),(0,t_ (.agg (fc 16 (fun k9=>iW (sm n k9))))),(0,t_ (.agg (fc 16 (fun k9=>iW (dg n k9))))),(0,b_ 0)] 0 [2] [] (⟨by omega,by decide,(vI (and16 _)),by decide,rfl,by omega,by decide,(vI (and16 _)),by decide,rfl,by omega,by decide,(vI (and16 _)),by decide,rfl,(Eq.trans (show _=some (cn .u64 ([n%65536,n/65536%65536,n/4294967296%65536,n/281474976710656,0,0,0,0,0,0,0,0,0,0,0,0]))by kernel_rfl) (congrArg some (Value.agg.inj (sm_fc n)))),(cP en_rfull (fun w=>by have h0:=rfull_any (fun k9=>sm n k9) (fun j _=>by show sm n j<_;unfold sm;split;omega;split;omega;split;omega;split <;> omega) w;rw [psum_sm,Nat.mod_eq_of_lt (Nat.lt_trans hn (by decide))]at h0;exact h0) _),rfl,((cZ _ _).trans (List.length_replicate ..)),(fc_size _ _),(fc_one fun _=>rfl),rfl,fun _ _ FF2 MM2=>tN ?_⟩))
 refine wp_ret ?_
 repeat first | refine tR ?_ | refine iR ?_
 exact(retc FF2 MM2 (k:=16) (i:=0) (j:=0) Tryz.results125 rfl rfl Tryz.underlying224 rfl (by kernel_rfl) (fc_size _ _) ⟨rfl,MM2.below⟩)
theorem rOf_any (ks:List Nat)(hk:KBytes ks)(w0:World) :
  Calls Tryz.prog 124 #[.agg (cn .u8 ks)] w0 fun e w'=>e=.returned (.agg (fc 16 (fun k9=>iW (dg (numOf ks%pN) k9))))∧Below w0.heap.size w0 w':=by
 refine eF Tryz.func124 rfl Tryz.ntmps124 (by simp) fun ac (FF:Fr 31 ac [(0,.agg (cn .u8 ks))])=>?_
 have MM:=MemS.start w0
 refine wp_seq (rg_c FF MM [(0,s_ 0 (.cells (cn .u8 ks) 51)),(0,s_ 0 (.cells (cn .u64 (List.replicate 16 0)) 224))] 3 [] [0] (⟨(by kernel_rfl),fun bk=>⟨(by kernel_rfl),fun br=>fun _ _ FF1 MM1=>tN ?_⟩⟩))
 refine wp_seq (rg_c FF1 MM1 [(0,t_ (.agg (fc 16 (fun k9=>iW (if k9<0 then kd ks k9 else 0))))),(0,s_ 0 (.cells (cn .u64 (List.replicate 16 0)) 224)),(0,b_ 0)] 4 [] [] (⟨(Eq.trans (show _=some (cn .u64 (List.replicate 16 0))by kernel_rfl) (congrArg some (Value.agg.inj (z16 _)))),(by kernel_rfl),fun ba=>⟨rfl,((cZ _ _).trans (List.length_replicate ..)),(fc_size _ _),(fc_one fun _=>rfl),rfl,fun _ _ FF2 MM2=>tN ?_⟩⟩))
 refine wp_seq ?_
 refine wp_seq (rg_c FF2 MM2 [] 5 [] [] (fun _ _ FF3 MM3=>tN ?_))
 refine wp_for2 (fun a' w'=>∃i:Nat,i≤16∧Fr 31 a' [(4,iN i),(3,pT ba),(2,pT br),(1,pT bk)]∧MemS (fun k=>k<w0.heap.size) w0 w' [(ba,.cells (fc 16 (fun k9=>iW (if k9<i then kd ks k9 else 0))) 224),(br,.cells (cn .u64 (List.replicate 16 0)) 224),(bk,.cells (cn .u8 ks) 51)] []) (fun a' _=>(16-cnt 4 a').toNat) ⟨0,Nat.zero_le _,FF3.pick [0,1,2,3],MM3⟩ ?_
 rintro ac4 wd4 ⟨i,hi,FF4,MM4⟩
 have hc:=cnt_of (FF4.get 0 rfl)
 refine rg_c FF4 MM4 [] 5 [7] [] (fun _ _ FF5 MM5=>?_)
 by_cases hlt:i<16
 ·skip
  refine tN (.inl ⟨(FF5.ev 0 rfl).trans (dec_t hlt),?_⟩)
  have hk1:=hk.2 (2*i)
  have hk2:=hk.2 (2*i+1)
  refine rg_dc 15 FF5 MM5 [(3,w_ 1),(0,l_ 2 (iB (ks.getD (2*i) 0))),(0,w_ 1),(3,w_ 1),(0,l_ 2 (iB (ks.getD ((2*i)+1) 0))),(0,w_ 1),(0,w_ 1),(0,u_ 1 (iW (kd ks i))),(0,w_ 1)] [(0,s_ 0 (.cells (fc 16 (fun k9=>iW (if k9=i then kd ks i else(if k9<i then kd ks k9 else 0)))) 224))] 5 [] [] (⟨by omega,by omega,rfl,(cn_get _ _ _ (by rw [hk.1];omega)),(by have:=hk.2 (2*i);omega),by omega,by omega,by omega,rfl,(cn_get _ _ _ (by rw [hk.1];omega)),(by have:=hk.2 ((2*i)+1);omega),by omega,by omega,(vI rfl),by omega,rfl,(by rw [fc_size];omega),(.inl rfl),(fc_setU _ _ _ _),fun _ _ FF6 MM6=>?_⟩)
  have MMr7:MemS _ _ _ [(ba,.cells (fc 16 (fun k9=>iW (if k9<i+1 then kd ks k9 else 0))) 224),_,_] _:=MM6.eqA 0 rfl (by rw [show fc 16 (fun k9=>iW (if k9<i+1 then kd ks k9 else 0))=fc 16 (fun k9=>iW (if k9=i then kd ks i else(if k9<i then kd ks k9 else 0)))from fc_cong fun k _=>vI (put_lt1 (kd ks) i k)] <;> rfl)
  refine inb_n (tN ?_)
  refine rg_c FF6 MMr7 [] 5 [] [] (⟨by omega,fun _ _ FF8 MM8=>?_⟩)
  have hd:=cnt_of (FF8.get 0 rfl)
  refine tN ⟨⟨i+1,by omega,FF8.pick [0,1,2,3],MM8⟩,?_⟩
  rw [hc,hd];omega
 ·skip
  refine tN (.inr ⟨(FF5.ev 0 rfl).trans (dec_f hlt),?_⟩)
  obtain rfl:i=16:=by omega
  have MMr9:MemS _ _ _ [(ba,.cells (fc 16 (fun k9=>iW (kd ks k9))) 224),_,_] _:=MM5.eqA 0 rfl (by rw [show fc 16 (fun k9=>iW (kd ks k9))=fc 16 (fun k9=>iW (if k9<16 then kd ks k9 else 0))from fc_cong fun k hk=>vI (if_pos hk).symm] <;> rfl)
  refine tN ?_
  have hk3:kd ks 15<65536:=by have h1:=hk.2 (2*15);have h2:=hk.2 (2*15+1);unfold kd;omega
  refine wp_seq (rg_c FF5 MMr9 [(0,w_ 1),(0,l_ 0 (iW (kd ks 15))),(0,t_ (iW (kd ks 15%32768))),(0,w_ 1),(0,s_ 0 (.cells (fc 16 (fun k9=>iW (if k9=15 then kd ks 15%32768 else kd ks k9))) 224))] 5 [] [] (⟨by decide,rfl,(fc_get _ (by omega)),by omega,by decide,(vI (and15 _)),by decide,rfl,(by rw [fc_size];decide),(.inl rfl),(fc_setU _ _ _ _),fun _ _ FF10 MM10=>tN ?_⟩))
  have MMr11:MemS _ _ _ [(ba,.cells (fc 16 (fun k9=>iW (kd' ks k9))) 224),_,_] _:=MM10.eqA 0 rfl (by rw [show fc 16 (fun k9=>iW (kd' ks k9))=fc 16 (fun k9=>iW (if k9=15 then kd ks 15%32768 else kd ks k9))from fc_cong fun k _=>rfl] <;> rfl)
  refine wp_seq (rg_c FF10 MMr11 [(0,b_ 0),(0,t_ (.agg (fc 16 (fun k9=>iW (dg (numOf ks%pN) k9))))),(0,b_ 1)] 5 [] [] (⟨rfl,(fc_size _ _),(cP en_rfull (fun w=>by have h0:=rfull_any (fun k9=>kd' ks k9) (fun j _=>kd_lt hk j) w;rw [show(fun k9=>kd' ks k9)=kd' ks from rfl,psum_kd ks hk]at h0;exact h0) _),rfl,((cZ _ _).trans (List.length_replicate ..)),(fc_size _ _),(fc_one fun _=>rfl),rfl,fun _ _ FF12 MM12=>tN ?_⟩))
  refine wp_ret ?_
  repeat first | refine tR ?_ | refine iR ?_
  exact(retc FF12 MM12 (k:=16) (i:=1) (j:=2) Tryz.results124 rfl rfl Tryz.underlying224 rfl (by kernel_rfl) (fc_size _ _) ⟨rfl,MM12.below⟩)
theorem rAdd_any (x y:Nat)(hx:x<q256)(hy:y<q256)(w0:World) :
  Calls Tryz.prog 126 #[.agg (fc 16 (fun k9=>iW (dg x k9))),.agg (fc 16 (fun k9=>iW (dg y k9)))] w0 fun e w'=>e=.returned (.agg (fc 16 (fun k9=>iW (dg ((x+y)%pN) k9))))∧Below w0.heap.size w0 w':=by
 refine eF Tryz.func126 rfl Tryz.ntmps126 (by simp) fun ac (FF:Fr 20 ac [(0,.agg (fc 16 (fun k9=>iW (dg x k9)))),(1,.agg (fc 16 (fun k9=>iW (dg y k9))))])=>?_
 have MM:=MemS.start w0
 refine wp_seq (rg_c FF MM [(0,s_ 0 (.cells (fc 16 (fun k9=>iW (dg x k9))) 224)),(0,s_ 0 (.cells (fc 16 (fun k9=>iW (dg y k9))) 224)),(0,s_ 0 (.cells (cn .u64 (List.replicate 16 0)) 224))] 5 [] [0,1] (⟨(by kernel_rfl),fun ba=>⟨(by kernel_rfl),fun bb=>⟨(by kernel_rfl),fun br=>fun _ _ FF1 MM1=>tN ?_⟩⟩⟩))
 refine wp_seq ?_
 refine wp_seq (rg_c FF1 MM1 [] 6 [] [] (fun _ _ FF2 MM2=>tN ?_))
 have MMr3:MemS _ _ _ [_,_,(ba,.cells (fc 16 (fun k9=>iW (if k9<0 then dg x k9+dg y k9 else dg x k9))) 224)] _:=MM2.eqA 2 rfl (by rw [show fc 16 (fun k9=>iW (if k9<0 then dg x k9+dg y k9 else dg x k9))=fc 16 (fun k9=>iW (dg x k9))from fc_cong fun k _=>vI (if_neg (Nat.not_lt_zero k))] <;> rfl)
 refine wp_for2 (fun a' w'=>∃i:Nat,i≤16∧Fr 20 a' [(5,iN i),(4,pT br),(3,pT bb),(2,pT ba)]∧MemS (fun k=>k<w0.heap.size) w0 w' [(br,.cells (cn .u64 (List.replicate 16 0)) 224),(bb,.cells (fc 16 (fun k9=>iW (dg y k9))) 224),(ba,.cells (fc 16 (fun k9=>iW (if k9<i then dg x k9+dg y k9 else dg x k9))) 224)] []) (fun a' _=>(16-cnt 5 a').toNat) ⟨0,Nat.zero_le _,FF2.pick [0,1,2,3],MMr3⟩ ?_
 rintro ac4 wd4 ⟨i,hi,FF4,MM4⟩
 have hc:=cnt_of (FF4.get 0 rfl)
 refine rg_c FF4 MM4 [] 6 [7] [] (fun _ _ FF5 MM5=>?_)
 by_cases hlt:i<16
 ·skip
  refine tN (.inl ⟨(FF5.ev 0 rfl).trans (dec_t hlt),?_⟩)
  have hd1:=dg_lt x i
  have hd2:=dg_lt y i
  refine rg_dc 8 FF5 MM5 [(1,w_ 1),(0,l_ 2 (iW (dg x i))),(1,w_ 1),(0,l_ 1 (iW (dg y i))),(0,w_ 1),(0,w_ 1)] [(0,s_ 2 (.cells (fc 16 (fun k9=>iW (if k9=i then(dg x i)+(dg y i)else(if k9<i then dg x k9+dg y k9 else dg x k9)))) 224))] 6 [] [] (⟨by omega,rfl,((fc_get _ (by omega)).trans (congrArg some (vI (if_neg (Nat.lt_irrefl i))))),by omega,rfl,(fc_get _ (by omega)),by omega,by omega,rfl,(by rw [fc_size];omega),(.inl rfl),(fc_setU _ _ _ _),fun _ _ FF6 MM6=>?_⟩)
  have MMr7:MemS _ _ _ [_,_,(ba,.cells (fc 16 (fun k9=>iW (if k9<i+1 then dg x k9+dg y k9 else dg x k9))) 224)] _:=MM6.eqA 2 rfl (by rw [show fc 16 (fun k9=>iW (if k9<i+1 then dg x k9+dg y k9 else dg x k9))=fc 16 (fun k9=>iW (if k9=i then(dg x i)+(dg y i)else(if k9<i then dg x k9+dg y k9 else dg x k9)))from fc_cong fun k _=>vI (put_ltg (fun k=>dg x k+dg y k) (dg x) i k)] <;> rfl)
  refine inb_n (tN ?_)
  refine rg_c FF6 MMr7 [] 6 [] [] (⟨by omega,fun _ _ FF8 MM8=>?_⟩)
  have hd:=cnt_of (FF8.get 0 rfl)
  refine tN ⟨⟨i+1,by omega,FF8.pick [0,1,2,3],MM8⟩,?_⟩
  rw [hc,hd];omega
 ·skip
  refine tN (.inr ⟨(FF5.ev 0 rfl).trans (dec_f hlt),?_⟩)
  obtain rfl:i=16:=by omega
  have MMr9:MemS _ _ _ [_,_,(ba,.cells (fc 16 (fun k9=>iW (dg x k9+dg y k9))) 224)] _:=MM5.eqA 2 rfl (by rw [show fc 16 (fun k9=>iW (dg x k9+dg y k9))=fc 16 (fun k9=>iW (if k9<16 then dg x k9+dg y k9 else dg x k9))from fc_cong fun k hk=>vI (if_pos hk).symm] <;> rfl)
  refine tN ?_
  refine wp_seq (rg_c FF5 MMr9 [(0,b_ 2),(0,t_ (.agg (fc 16 (fun k9=>iW (dg ((x+y)%pN) k9))))),(0,b_ 0)] 6 [] [] (⟨rfl,(fc_size _ _),(cP en_rfull (fun w=>by have h0:=rfull_any (fun k9=>dg x k9+dg y k9) (fun j _=>by have:=dg_lt x j;have:=dg_lt y j;show dg x j+dg y j<_;omega) w;rw [psum_add,psum_dg x 16,psum_dg y 16,show(65536:Nat)^16=q256 from rfl,Nat.mod_eq_of_lt hx,Nat.mod_eq_of_lt hy]at h0;exact h0) _),rfl,((cZ _ _).trans (List.length_replicate ..)),(fc_size _ _),(fc_one fun _=>rfl),rfl,fun _ _ FF10 MM10=>tN ?_⟩))
  refine wp_ret ?_
  repeat first | refine tR ?_ | refine iR ?_
  exact(retc FF10 MM10 (k:=16) (i:=0) (j:=1) Tryz.results126 rfl rfl Tryz.underlying224 rfl (by kernel_rfl) (fc_size _ _) ⟨rfl,MM10.below⟩)
theorem rSub_any (x y:Nat)(hx:x<pN)(hy:y<pN)(w0:World) :
  Calls Tryz.prog 127 #[.agg (fc 16 (fun k9=>iW (dg x k9))),.agg (fc 16 (fun k9=>iW (dg y k9)))] w0 fun e w'=>e=.returned (.agg (fc 16 (fun k9=>iW (dg ((x+(pN-y))%pN) k9))))∧Below w0.heap.size w0 w':=by
 refine eF Tryz.func127 rfl Tryz.ntmps127 (by simp) fun ac (FF:Fr 33 ac [(0,.agg (fc 16 (fun k9=>iW (dg x k9)))),(1,.agg (fc 16 (fun k9=>iW (dg y k9))))])=>?_
 have MM:=MemS.start w0
 refine wp_seq (rg_c FF MM [(0,s_ 0 (.cells (fc 16 (fun k9=>iW (dg x k9))) 224)),(0,s_ 0 (.cells (fc 16 (fun k9=>iW (dg y k9))) 224)),(0,s_ 0 (.cells (cn .u64 (List.replicate 16 0)) 224))] 5 [] [0,1] (⟨(by kernel_rfl),fun ba=>⟨(by kernel_rfl),fun bb=>⟨(by kernel_rfl),fun br=>fun _ _ FF1 MM1=>tN ?_⟩⟩⟩))
 refine wp_seq (rg_c FF1 MM1 [(0,t_ (.agg (fc 16 (fun k9=>iW (if k9<0 then bd pd (dg y) k9 else 0))))),(0,s_ 0 (.cells (cn .u64 (List.replicate 16 0)) 224)),(0,b_ 0)] 6 [] [] (⟨(Eq.trans (show _=some (cn .u64 (List.replicate 16 0))by kernel_rfl) (congrArg some (Value.agg.inj (z16 _)))),(by kernel_rfl),fun bc=>⟨rfl,((cZ _ _).trans (List.length_replicate ..)),(fc_size _ _),(fc_one fun _=>rfl),rfl,fun _ _ FF2 MM2=>tN ?_⟩⟩))
 refine wp_seq (rg_c FF2 MM2 [(0,t_ (iW (bw pd (dg y) 0)))] 7 [] [] (⟨(vI rfl),fun _ _ FF3 MM3=>tN ?_⟩))
 refine wp_seq ?_
 refine wp_seq (rg_c FF3 MM3 [] 8 [] [] (fun _ _ FF4 MM4=>tN ?_))
 refine wp_for2 (fun a' w'=>∃i:Nat,i≤16∧Fr 33 a' [(7,iN i),(6,iW (bw pd (dg y) i)),(5,pT bc),(4,pT br),(3,pT bb),(2,pT ba)]∧MemS (fun k=>k<w0.heap.size) w0 w' [(bc,.cells (fc 16 (fun k9=>iW (if k9<i then bd pd (dg y) k9 else 0))) 224),(br,.cells (cn .u64 (List.replicate 16 0)) 224),(bb,.cells (fc 16 (fun k9=>iW (dg y k9))) 224),(ba,.cells (fc 16 (fun k9=>iW (dg x k9))) 224)] []) (fun a' _=>(16-cnt 7 a').toNat) ⟨0,Nat.zero_le _,FF4.pick [0,1,2,3,4,5],MM4⟩ ?_
 rintro ac5 wd5 ⟨i,hi,FF5,MM5⟩
 have hc:=cnt_of (FF5.get 0 rfl)
 refine rg_c FF5 MM5 [] 8 [11] [] (fun _ _ FF6 MM6=>?_)
 by_cases hlt:i<16
 ·skip
  refine tN (.inl ⟨(FF6.ev 0 rfl).trans (dec_t hlt),?_⟩)
  have hd1:=dg_lt y i
  have hp1:=pd_lt i
  have hb1:=bw_le pd (dg y) i
  refine wp_seq (rg_dc 10 FF6 MM6 [(1,t_ (iW (pd i))),(0,w_ 1),(1,w_ 1),(0,l_ 2 (iW (dg y i))),(0,w_ 1),(1,w_ 1)] [] 9 [] [] (⟨(cP en_rprime (rprime_any i) _),by omega,by omega,rfl,(fc_get _ (by omega)),by omega,(by have:=pd_lt i;omega),by omega,(by have:=pd_lt i;omega),fun _ _ FF7 MM7=>tN ?_⟩))
  refine wp_seq (rg_c FF7 MM7 [(2,t_ (iW (bd pd (dg y) i))),(0,w_ 1),(0,s_ 0 (.cells (fc 16 (fun k9=>iW (if k9=i then bd pd (dg y) i else(if k9<i then bd pd (dg y) k9 else 0)))) 224))] 9 [] [] (⟨by omega,by decide,(vI (and16 _)),by omega,rfl,(by rw [fc_size];omega),(.inl rfl),(fc_setU _ _ _ _),fun _ _ FF8 MM8=>tN ?_⟩))
  have MMr9:MemS _ _ _ [(bc,.cells (fc 16 (fun k9=>iW (if k9<i+1 then bd pd (dg y) k9 else 0))) 224),_,_,_] _:=MM8.eqA 0 rfl (by rw [show fc 16 (fun k9=>iW (if k9<i+1 then bd pd (dg y) k9 else 0))=fc 16 (fun k9=>iW (if k9=i then bd pd (dg y) i else(if k9<i then bd pd (dg y) k9 else 0)))from fc_cong fun k _=>vI (put_lt1 (bd pd (dg y)) i k)] <;> rfl)
  refine rg_c FF8 MMr9 [(1,t_ (iW (((((pd i)+65536)-(dg y i))-(bw pd (dg y) i))/65536))),(0,u_ 1 (iW (bw pd (dg y) (i+1))))] 9 [] [] (⟨by decide,rfl,by omega,(by have:=pd_lt i;omega),(vI rfl),fun _ _ FF10 MM10=>?_⟩)
  refine inb_n (tN ?_)
  refine rg_c FF10 MM10 [] 9 [] [] (⟨by omega,fun _ _ FF11 MM11=>?_⟩)
  have hd:=cnt_of (FF11.get 0 rfl)
  refine tN ⟨⟨i+1,by omega,FF11.pick [0,1,3,4,5,6],MM11⟩,?_⟩
  rw [hc,hd];omega
 ·skip
  refine tN (.inr ⟨(FF6.ev 0 rfl).trans (dec_f hlt),?_⟩)
  obtain rfl:i=16:=by omega
  have MMr12:MemS _ _ _ [(bc,.cells (fc 16 (fun k9=>iW (dg (pN-y) k9))) 224),_,_,_] _:=MM6.eqA 0 rfl (by rw [show fc 16 (fun k9=>iW (dg (pN-y) k9))=fc 16 (fun k9=>iW (if k9<16 then bd pd (dg y) k9 else 0))from fc_cong fun k hk=>vI ((if_pos hk).trans (bd_prime y (Nat.le_of_lt hy) k hk)).symm] <;> rfl)
  refine tN ?_
  refine wp_seq (rg_c FF6 MMr12 [(0,b_ 3),(0,b_ 0),(0,t_ (.agg (fc 16 (fun k9=>iW (dg ((x+(pN-y))%pN) k9))))),(0,b_ 1)] 8 [] [2] (⟨rfl,(fc_size _ _),rfl,(fc_size _ _),(cP en_rAdd (rAdd_any x (pN-y) (Nat.lt_trans hx pN_q) (Nat.lt_of_le_of_lt (Nat.sub_le _ _) pN_q)) _),rfl,((cZ _ _).trans (List.length_replicate ..)),(fc_size _ _),(fc_one fun _=>rfl),rfl,fun _ _ FF13 MM13=>tN ?_⟩))
  refine wp_ret ?_
  repeat first | refine tR ?_ | refine iR ?_
  exact(retc FF13 MM13 (k:=16) (i:=1) (j:=3) Tryz.results127 rfl rfl Tryz.underlying224 rfl (by kernel_rfl) (fc_size _ _) ⟨rfl,MM13.below⟩)
set_option maxHeartbeats 1000000 in
theorem rMul_any (x y:Nat)(hx:x<q256)(hy:y<q256)(w0:World) :
  Calls Tryz.prog 128 #[.agg (fc 16 (fun k9=>iW (dg x k9))),.agg (fc 16 (fun k9=>iW (dg y k9)))] w0 fun e w'=>e=.returned (.agg (fc 16 (fun k9=>iW (dg (x*y%pN) k9))))∧Below w0.heap.size w0 w':=by
 refine eF Tryz.func128 rfl Tryz.ntmps128 (by simp) fun ac (FF:Fr 51 ac [(0,.agg (fc 16 (fun k9=>iW (dg x k9)))),(1,.agg (fc 16 (fun k9=>iW (dg y k9))))])=>?_
 have MM:=MemS.start w0
 refine wp_seq (rg_c FF MM [(0,s_ 0 (.cells (fc 16 (fun k9=>iW (dg x k9))) 224)),(0,s_ 0 (.cells (fc 16 (fun k9=>iW (dg y k9))) 224)),(0,s_ 0 (.cells (cn .u64 (List.replicate 16 0)) 224))] 5 [] [0,1] (⟨(by kernel_rfl),fun ba=>⟨(by kernel_rfl),fun bb=>⟨(by kernel_rfl),fun br=>fun _ _ FF1 MM1=>tN ?_⟩⟩⟩))
 refine wp_seq (rg_c FF1 MM1 [(0,t_ (.agg (fc 32 (fun k9=>iW (0*k9))))),(0,s_ 0 (.cells (cn .u64 (List.replicate 32 0)) 256)),(0,b_ 0)] 6 [] [] (⟨(Eq.trans (show _=some (cn .u64 (List.replicate 32 0))by kernel_rfl) (congrArg some (Value.agg.inj z32))),(by kernel_rfl),fun bt=>⟨rfl,((cZ _ _).trans (List.length_replicate ..)),(fc_size _ _),(fc_one fun _=>rfl),rfl,fun _ _ FF2 MM2=>tN ?_⟩⟩))
 refine wp_seq ?_
 refine wp_seq (rg_c FF2 MM2 [] 7 [] [] (fun _ _ FF3 MM3=>tN ?_))
 refine wp_for2 (fun a' w'=>∃i:Nat,∃T:Nat→Nat,i≤16∧MulI (dg x) (dg y) i 0 T∧Fr 51 a' [(6,iN i),(5,pT bt),(4,pT br),(3,pT bb),(2,pT ba)]∧MemS (fun k=>k<w0.heap.size) w0 w' [(bt,.cells (fc 32 (fun k9=>iW (T k9))) 256),(br,.cells (cn .u64 (List.replicate 16 0)) 224),(bb,.cells (fc 16 (fun k9=>iW (dg y k9))) 224),(ba,.cells (fc 16 (fun k9=>iW (dg x k9))) 224)] []) (fun a' _=>(16-cnt 6 a').toNat) ⟨0,fun m=>0*m,Nat.zero_le _,⟨by simp [psum],fun m=>by simp⟩,FF3.pick [0,1,2,3,4],MM3⟩ ?_
 rintro ac4 wd4 ⟨i,T,hi,hT,FF4,MM4⟩
 have hco:=cnt_of (FF4.get 0 rfl)
 refine rg_c FF4 MM4 [] 7 [12] [] (fun _ _ FF5 MM5=>?_)
 by_cases hlto:i<16
 ·skip
  refine tN (.inl ⟨(FF5.ev 0 rfl).trans (dec_t hlto),?_⟩)
  refine wp_seq (rg_c FF5 MM5 [] 8 [] [] (fun _ _ FF6 MM6=>tN ?_))
  refine wp_for2 (fun a' w'=>∃k:Nat,∃T2:Nat→Nat,k≤16∧MulI (dg x) (dg y) i k T2∧Fr 51 a' [(7,iN k),(6,iN i),(5,pT bt),(4,pT br),(3,pT bb),(2,pT ba)]∧MemS (fun k=>k<w0.heap.size) w0 w' [(bt,.cells (fc 32 (fun k9=>iW (T2 k9))) 256),(br,.cells (cn .u64 (List.replicate 16 0)) 224),(bb,.cells (fc 16 (fun k9=>iW (dg y k9))) 224),(ba,.cells (fc 16 (fun k9=>iW (dg x k9))) 224)] []) (fun a' _=>(16-cnt 7 a').toNat) ⟨0,T,Nat.zero_le _,hT,FF6.pick [0,1,2,3,4,5],MM6⟩ ?_
  rintro ac7 wd7 ⟨k,T2,hk,hT2,FF7,MM7⟩
  have hc:=cnt_of (FF7.get 0 rfl)
  refine rg_c FF7 MM7 [] 8 [16] [] (fun _ _ FF8 MM8=>?_)
  by_cases hlt:k<16
  ·skip
   refine tN (.inl ⟨(FF8.ev 0 rfl).trans (dec_t hlt),?_⟩)
   have hm9:dg x i*dg y k≤4294967296:=Nat.le_trans (Nat.mul_le_mul (Nat.le_of_lt (dg_lt x i)) (Nat.le_of_lt (dg_lt y k))) (by decide)
   have hT9:=hT2.bd (i+k)
   refine rg_dc 14 FF8 MM8 [(3,w_ 1),(0,l_ 0 (iW (T2 (i+k)))),(1,w_ 1),(0,l_ 3 (iW (dg x i))),(1,w_ 1),(0,l_ 2 (iW (dg y k))),(0,w_ 1),(0,w_ 1),(0,w_ 1)] [(0,s_ 0 (.cells (fc 32 (fun k9=>iW (if k9=i+k then(T2 (i+k))+((dg x i)*(dg y k))else T2 k9))) 256))] 8 [] [] (⟨by omega,by omega,rfl,(fc_get _ (by omega)),by omega,rfl,(fc_get _ (by omega)),by omega,rfl,(fc_get _ (by omega)),by omega,by omega,by omega,rfl,(by rw [fc_size];omega),(.inl rfl),(fc_setU _ _ _ _),fun _ _ FF9 MM9=>?_⟩)
   refine inb_n (tN ?_)
   refine rg_c FF9 MM9 [] 8 [] [] (⟨by omega,fun _ _ FF10 MM10=>?_⟩)
   have hd:=cnt_of (FF10.get 0 rfl)
   refine tN ⟨⟨k+1,fun m=>if m=i+k then T2 (i+k)+dg x i*dg y k else T2 m,by omega,hT2.step hlto hlt (dg_lt _ _) (dg_lt _ _),FF10.pick [0,1,2,3,4,5],MM10⟩,?_⟩
   rw [hc,hd];omega
  ·skip
   refine tN (.inr ⟨(FF8.ev 0 rfl).trans (dec_f hlt),?_⟩)
   obtain rfl:k=16:=by omega
   refine inb_n (tN ?_)
   refine rg_c FF8 MM8 [] 8 [] [] (⟨by omega,fun _ _ FF11 MM11=>?_⟩)
   have hdo:=cnt_of (FF11.get 0 rfl)
   refine tN ⟨⟨i+1,T2,by omega,hT2.next,FF11.pick [0,2,3,4,5],MM11⟩,?_⟩
   rw [hco,hdo];omega
 ·skip
  refine tN (.inr ⟨(FF5.ev 0 rfl).trans (dec_f hlto),?_⟩)
  obtain rfl:i=16:=by omega
  have hsum:psum T 32=x*y:=by have h9:=hT.sum;rw [psum_dg x 16,psum_dg y 16,show(65536:Nat)^16=q256 from rfl,Nat.mod_eq_of_lt hx,Nat.mod_eq_of_lt hy]at h9;rw [h9];show x*y+_*0=x*y;rw [Nat.mul_zero,Nat.add_zero]
  refine tN ?_
  refine wp_seq (rg_c FF5 MM5 [(0,t_ (.agg (fc 16 (fun k9=>iW (if k9<0 then T k9+38*T (k9+16)else 0))))),(0,s_ 0 (.cells (cn .u64 (List.replicate 16 0)) 224)),(0,b_ 0)] 9 [] [] (⟨(Eq.trans (show _=some (cn .u64 (List.replicate 16 0))by kernel_rfl) (congrArg some (Value.agg.inj (z16 (fun k=>T k+38*T (k+16)))))),(by kernel_rfl),fun bc=>⟨rfl,((cZ _ _).trans (List.length_replicate ..)),(fc_size _ _),(fc_one fun _=>rfl),rfl,fun _ _ FF12 MM12=>tN ?_⟩⟩))
  refine wp_seq ?_
  refine wp_seq (rg_c FF12 MM12 [] 9 [9] [] (fun _ _ FF13 MM13=>tN ?_))
  refine wp_for2 (fun a' w'=>∃j:Nat,j≤16∧Fr 51 a' [(9,iN j),(8,pT bc),(6,iN 16),(5,pT bt),(4,pT br),(3,pT bb),(2,pT ba)]∧MemS (fun k=>k<w0.heap.size) w0 w' [(bc,.cells (fc 16 (fun k9=>iW (if k9<j then T k9+38*T (k9+16)else 0))) 224),(bt,.cells (fc 32 (fun k9=>iW (T k9))) 256),(br,.cells (cn .u64 (List.replicate 16 0)) 224),(bb,.cells (fc 16 (fun k9=>iW (dg y k9))) 224),(ba,.cells (fc 16 (fun k9=>iW (dg x k9))) 224)] []) (fun a' _=>(16-cnt 9 a').toNat) ⟨0,Nat.zero_le _,FF13.pick [0,1,2,3,4,5,6],MM13⟩ ?_
  rintro ac14 wd14 ⟨j,hj,FF14,MM14⟩
  have hc:=cnt_of (FF14.get 0 rfl)
  refine rg_c FF14 MM14 [] 10 [35] [] (fun _ _ FF15 MM15=>?_)
  by_cases hlt:j<16
  ·skip
   refine tN (.inl ⟨(FF15.ev 0 rfl).trans (dec_t hlt),?_⟩)
   have hT7:=hT.bd j
   have hT8:=hT.bd (j+16)
   refine rg_dc 11 FF15 MM15 [(2,w_ 1),(0,l_ 1 (iW (T j))),(2,w_ 1),(0,l_ 1 (iW (T (j+16)))),(0,w_ 1),(0,w_ 1),(0,w_ 1)] [(0,s_ 0 (.cells (fc 16 (fun k9=>iW (if k9=j then(T j)+(38*(T (j+16)))else(if k9<j then T k9+38*T (k9+16)else 0)))) 224))] 9 [9] [] (⟨by omega,rfl,(fc_get _ (by omega)),by omega,by omega,rfl,(fc_get _ (by omega)),by omega,by omega,by omega,rfl,(by rw [fc_size];omega),(.inl rfl),(fc_setU _ _ _ _),fun _ _ FF16 MM16=>?_⟩)
   have MMr17:MemS _ _ _ [(bc,.cells (fc 16 (fun k9=>iW (if k9<j+1 then T k9+38*T (k9+16)else 0))) 224),_,_,_,_] _:=MM16.eqA 0 rfl (by rw [show fc 16 (fun k9=>iW (if k9<j+1 then T k9+38*T (k9+16)else 0))=fc 16 (fun k9=>iW (if k9=j then(T j)+(38*(T (j+16)))else(if k9<j then T k9+38*T (k9+16)else 0)))from fc_cong fun k _=>vI (put_lt1 (fun k=>T k+38*T (k+16)) j k)] <;> rfl)
   refine inb_n (tN ?_)
   refine rg_c FF16 MMr17 [] 9 [9] [] (⟨by omega,fun _ _ FF18 MM18=>?_⟩)
   have hd:=cnt_of (FF18.get 0 rfl)
   refine tN ⟨⟨j+1,by omega,FF18.pick [0,1,2,3,4,5,6],MM18⟩,?_⟩
   rw [hc,hd];omega
  ·skip
   refine tN (.inr ⟨(FF15.ev 0 rfl).trans (dec_f hlt),?_⟩)
   obtain rfl:j=16:=by omega
   have MMr19:MemS _ _ _ [(bc,.cells (fc 16 (fun k9=>iW (T k9+38*T (k9+16)))) 224),_,_,_,_] _:=MM15.eqA 0 rfl (by rw [show fc 16 (fun k9=>iW (T k9+38*T (k9+16)))=fc 16 (fun k9=>iW (if k9<16 then T k9+38*T (k9+16)else 0))from fc_cong fun k hk=>vI (if_pos hk).symm] <;> rfl)
   refine tN ?_
   refine wp_seq (rg_c FF15 MMr19 [(0,b_ 0),(0,t_ (.agg (fc 16 (fun k9=>iW (dg (x*y%pN) k9))))),(0,b_ 2)] 9 [9] [] (⟨rfl,(fc_size _ _),(cP en_rfull (fun w=>by have h0:=rfull_any (fun k9=>T k9+38*T (k9+16)) (fun j _=>by have:=hT.bd j;have:=hT.bd (j+16);show T j+38*T (j+16)<_;omega) w;rw [mul_fold,hsum]at h0;exact h0) _),rfl,((cZ _ _).trans (List.length_replicate ..)),(fc_size _ _),(fc_one fun _=>rfl),rfl,fun _ _ FF20 MM20=>tN ?_⟩))
   refine wp_ret ?_
   repeat first | refine tR ?_ | refine iR ?_
   exact(retc FF20 MM20 (k:=16) (i:=2) (j:=4) Tryz.results128 rfl rfl Tryz.underlying224 rfl (by kernel_rfl) (fc_size _ _) ⟨rfl,MM20.below⟩)
set_option maxHeartbeats 1000000 in
theorem rInv_any (x:Nat)(hx:x<pN)(w0:World) :
  Calls Tryz.prog 130 #[.agg (fc 16 (fun k9=>iW (dg x k9)))] w0 fun e w'=>e=.returned (.agg (fc 16 (fun k9=>iW (dg (invTo x 255) k9))))∧Below w0.heap.size w0 w':=by
 refine eF Tryz.func130 rfl Tryz.ntmps130 (by simp) fun ac (FF:Fr 23 ac [(0,.agg (fc 16 (fun k9=>iW (dg x k9))))])=>?_
 have MM:=MemS.start w0
 refine wp_seq (rg_c FF MM [(0,s_ 0 (.cells (fc 16 (fun k9=>iW (dg x k9))) 224)),(0,s_ 0 (.cells (cn .u64 (List.replicate 16 0)) 224))] 3 [] [0] (⟨(by kernel_rfl),fun ba=>⟨(by kernel_rfl),fun br=>fun _ _ FF1 MM1=>tN ?_⟩⟩))
 refine wp_seq (rg_c FF1 MM1 [(0,b_ 1),(0,s_ 0 (.cells (cn .u64 (List.replicate 16 0)) 224)),(0,b_ 0)] 4 [] [] (⟨rfl,(fc_size _ _),(by kernel_rfl),fun bc=>⟨rfl,((cZ _ _).trans (List.length_replicate ..)),(fc_size _ _),(fc_one fun _=>rfl),rfl,fun _ _ FF2 MM2=>tN ?_⟩⟩))
 have MMr3:MemS _ _ _ [(bc,.cells (fc 16 (fun k9=>iW (dg (invTo x (255-254)) k9))) 224),_,_] _:=MM2.eqA 0 rfl (by rw [show fc 16 (fun k9=>iW (dg (invTo x (255-254)) k9))=fc 16 (fun k9=>iW (dg x k9))from fc_cong fun k _=>by rw [show 255-254=1 from rfl,invTo_one x hx]] <;> rfl)
 refine wp_seq ?_
 refine wp_seq (rg_c FF2 MMr3 [] 5 [] [] (fun _ _ FF4 MM4=>tN ?_))
 refine wp_for2 (fun a' w'=>∃k:Nat,k≤254∧Fr 23 a' [(4,.int .i64 (((k:Nat):Int)-1:Int)),(3,pT bc),(2,pT br),(1,pT ba)]∧MemS (fun k=>k<w0.heap.size) w0 w' [(bc,.cells (fc 16 (fun k9=>iW (dg (invTo x (255-k)) k9))) 224),(br,.cells (cn .u64 (List.replicate 16 0)) 224),(ba,.cells (fc 16 (fun k9=>iW (dg x k9))) 224)] []) (fun a' _=>(cnt 4 a'+1).toNat) ⟨254,Nat.le_refl _,FF4.pick [0,1,2,3],MM4⟩ ?_
 rintro ac5 wd5 ⟨k,hk,FF5,MM5⟩
 have hc:=cnt_of (FF5.get 0 rfl)
 refine rg_c FF5 MM5 [(1,w_ 4)] 5 [7] [] (fun _ _ FF6 MM6=>?_)
 by_cases hlt:(((k:Nat):Int)-1)≥((0:Nat):Int)
 ·skip
  refine tN (.inl ⟨(FF6.ev 0 rfl).trans (dec_t hlt),?_⟩)
  obtain⟨k,rfl⟩:∃z,k=z+1:=⟨k-1,by omega⟩
  by_cases h2:k=2
  ·skip
   refine wp_seq (rg_c FF6 MM6 [(0,b_ 0),(0,b_ 0),(0,t_ (.agg (fc 16 (fun k9=>iW (dg ((invTo x (255-(k+1)))*(invTo x (255-(k+1)))%pN) k9))))),(0,b_ 0)] 5 [] [] (⟨rfl,(fc_size _ _),rfl,(fc_size _ _),(cP en_rMul (rMul_any (invTo x (255-(k+1))) (invTo x (255-(k+1))) (invTo_q _ _) (invTo_q _ _)) _),rfl,(fc_size _ _),(fc_size _ _),(fc_one fun _=>rfl),rfl,fun _ _ FF7 MM7=>tN ?_⟩))
   have MMr8:MemS _ _ _ [(bc,.cells (fc 16 (fun k9=>iW (dg (invTo x (255-k)) k9))) 224),_,_] _:=MM7.eqA 0 rfl (by rw [show fc 16 (fun k9=>iW (dg (invTo x (255-k)) k9))=fc 16 (fun k9=>iW (dg ((invTo x (255-(k+1)))*(invTo x (255-(k+1)))%pN) k9))from fc_cong fun j _=>by rw [inv_yes x (.inl h2)]] <;> rfl)
   refine wp_seq (rg_c FF7 MMr8 [(1,u_ 4 (.bool false))] 5 [18] [] (⟨(dec_f (by omega)),fun _ _ FF9 MM9=>tN ?_⟩))
   refine wp_cond_false (FF9.ev 0 rfl) ?_
   refine wp_skip ?_
   refine inb_n (tN ?_)
   refine rg_c FF9 MM9 [(1,u_ 4 (.int .i64 (((k:Nat):Int)-1:Int)))] 5 [] [] (⟨by omega,by omega,(vZ (by omega)),fun _ _ FF10 MM10=>?_⟩)
   have hd:=cnt_of (FF10.get 0 rfl)
   refine tN ⟨⟨k,by omega,FF10.pick [0,1,2,3],MM10⟩,?_⟩
   rw [hc,hd];omega
  by_cases h4:k=4
  ·skip
   refine wp_seq (rg_c FF6 MM6 [(0,b_ 0),(0,b_ 0),(0,t_ (.agg (fc 16 (fun k9=>iW (dg ((invTo x (255-(k+1)))*(invTo x (255-(k+1)))%pN) k9))))),(0,b_ 0)] 5 [] [] (⟨rfl,(fc_size _ _),rfl,(fc_size _ _),(cP en_rMul (rMul_any (invTo x (255-(k+1))) (invTo x (255-(k+1))) (invTo_q _ _) (invTo_q _ _)) _),rfl,(fc_size _ _),(fc_size _ _),(fc_one fun _=>rfl),rfl,fun _ _ FF11 MM11=>tN ?_⟩))
   have MMr12:MemS _ _ _ [(bc,.cells (fc 16 (fun k9=>iW (dg (invTo x (255-k)) k9))) 224),_,_] _:=MM11.eqA 0 rfl (by rw [show fc 16 (fun k9=>iW (dg (invTo x (255-k)) k9))=fc 16 (fun k9=>iW (dg ((invTo x (255-(k+1)))*(invTo x (255-(k+1)))%pN) k9))from fc_cong fun j _=>by rw [inv_yes x (.inr h4)]] <;> rfl)
   refine wp_seq (rg_c FF11 MMr12 [(1,w_ 6),(2,u_ 4 (.bool false))] 5 [18] [] (⟨by omega,(dec_f (by omega)),fun _ _ FF13 MM13=>tN ?_⟩))
   refine wp_cond_false (FF13.ev 0 rfl) ?_
   refine wp_skip ?_
   refine inb_n (tN ?_)
   refine rg_c FF13 MM13 [(1,u_ 4 (.int .i64 (((k:Nat):Int)-1:Int)))] 5 [] [] (⟨by omega,by omega,(vZ (by omega)),fun _ _ FF14 MM14=>?_⟩)
   have hd:=cnt_of (FF14.get 0 rfl)
   refine tN ⟨⟨k,by omega,FF14.pick [0,1,2,3],MM14⟩,?_⟩
   rw [hc,hd];omega
  refine wp_seq (rg_c FF6 MM6 [(0,b_ 0),(0,b_ 0),(0,t_ (.agg (fc 16 (fun k9=>iW (dg ((invTo x (255-(k+1)))*(invTo x (255-(k+1)))%pN) k9))))),(0,b_ 0)] 5 [] [] (⟨rfl,(fc_size _ _),rfl,(fc_size _ _),(cP en_rMul (rMul_any (invTo x (255-(k+1))) (invTo x (255-(k+1))) (invTo_q _ _) (invTo_q _ _)) _),rfl,(fc_size _ _),(fc_size _ _),(fc_one fun _=>rfl),rfl,fun _ _ FF15 MM15=>tN ?_⟩))
  refine wp_seq (rg_c FF15 MM15 [(1,w_ 6),(2,w_ 6)] 5 [18] [] (⟨by omega,by omega,fun _ _ FF16 MM16=>tN ?_⟩))
  refine wp_cond_true (FF16.ev 0 rfl) ?_
  refine rg_c FF16 MM16 [(0,b_ 0),(0,b_ 2),(0,t_ (.agg (fc 16 (fun k9=>iW (dg (((invTo x (255-(k+1)))*(invTo x (255-(k+1)))%pN)*x%pN) k9))))),(0,b_ 0)] 5 [] [] (⟨rfl,(fc_size _ _),rfl,(fc_size _ _),(cP en_rMul (rMul_any ((invTo x (255-(k+1)))*(invTo x (255-(k+1)))%pN) x (Nat.lt_trans (Nat.mod_lt _ (by decide)) pN_q) (Nat.lt_trans hx pN_q)) _),rfl,(fc_size _ _),(fc_size _ _),(fc_one fun _=>rfl),rfl,fun _ _ FF17 MM17=>?_⟩)
  have MMr18:MemS _ _ _ [(bc,.cells (fc 16 (fun k9=>iW (dg (invTo x (255-k)) k9))) 224),_,_] _:=MM17.eqA 0 rfl (by rw [show fc 16 (fun k9=>iW (dg (invTo x (255-k)) k9))=fc 16 (fun k9=>iW (dg (((invTo x (255-(k+1)))*(invTo x (255-(k+1)))%pN)*x%pN) k9))from fc_cong fun j _=>by rw [inv_no x h2 h4 (by omega)]] <;> rfl)
  refine inb_n (tN ?_)
  refine rg_c FF17 MMr18 [(1,u_ 4 (.int .i64 (((k:Nat):Int)-1:Int)))] 5 [] [] (⟨by omega,by omega,(vZ (by omega)),fun _ _ FF19 MM19=>?_⟩)
  have hd:=cnt_of (FF19.get 0 rfl)
  refine tN ⟨⟨k,by omega,FF19.pick [0,1,2,3],MM19⟩,?_⟩
  rw [hc,hd];omega
 ·skip
  refine tN (.inr ⟨(FF6.ev 0 rfl).trans (dec_f hlt),?_⟩)
  obtain rfl:k=0:=by omega
  refine tN ?_
  refine wp_seq (rg_c FF6 MM6 [(0,b_ 0),(0,b_ 1)] 5 [] [] (⟨rfl,(fc_size _ _),rfl,((cZ _ _).trans (List.length_replicate ..)),(fc_size _ _),(fc_one fun _=>rfl),rfl,fun _ _ FF20 MM20=>tN ?_⟩))
  refine wp_ret ?_
  repeat first | refine tR ?_ | refine iR ?_
  exact(retc FF20 MM20 (k:=16) (i:=1) (j:=2) Tryz.results130 rfl rfl Tryz.underlying224 rfl (by kernel_rfl) (fc_size _ _) ⟨rfl,MM20.below⟩)
theorem rKey_any (n:Nat)(w0:World) :
  Calls Tryz.prog 129 #[.agg (fc 16 (fun k9=>iW (dg n k9)))] w0 fun e w'=>e=.returned (.agg (cn .u8 (keyL n)))∧Below w0.heap.size w0 w':=by
 refine eF Tryz.func129 rfl Tryz.ntmps129 (by simp) fun ac (FF:Fr 27 ac [(0,.agg (fc 16 (fun k9=>iW (dg n k9))))])=>?_
 have MM:=MemS.start w0
 refine wp_seq (rg_c FF MM [(0,s_ 0 (.cells (fc 16 (fun k9=>iW (dg n k9))) 224)),(0,s_ 0 (.cells (cn .u8 (List.replicate 32 0)) 51))] 3 [] [0] (⟨(by kernel_rfl),fun bx=>⟨(by kernel_rfl),fun br=>fun _ _ FF1 MM1=>tN ?_⟩⟩))
 refine wp_seq (rg_c FF1 MM1 [(0,t_ (.agg (cn .u8 (keyU n 0)))),(0,s_ 0 (.cells (cn .u8 (List.replicate 32 0)) 51)),(0,b_ 0)] 4 [] [] (⟨(Eq.trans (show _=some (cn .u8 (List.replicate 32 0))by kernel_rfl) (congrArg some (Value.agg.inj rfl))),(by kernel_rfl),fun bo=>⟨rfl,((cZ _ _).trans (List.length_replicate ..)),((cZ _ _).trans (keyU_len _ _)),(cn_one _ _),rfl,fun _ _ FF2 MM2=>tN ?_⟩⟩))
 refine wp_seq ?_
 refine wp_seq (rg_c FF2 MM2 [] 5 [] [] (fun _ _ FF3 MM3=>tN ?_))
 refine wp_for2 (fun a' w'=>∃i:Nat,i≤16∧Fr 27 a' [(4,iN i),(3,pT bo),(2,pT br),(1,pT bx)]∧MemS (fun k=>k<w0.heap.size) w0 w' [(bo,.cells (cn .u8 (keyU n i)) 51),(br,.cells (cn .u8 (List.replicate 32 0)) 51),(bx,.cells (fc 16 (fun k9=>iW (dg n k9))) 224)] []) (fun a' _=>(16-cnt 4 a').toNat) ⟨0,Nat.zero_le _,FF3.pick [0,1,2,3],MM3⟩ ?_
 rintro ac4 wd4 ⟨i,hi,FF4,MM4⟩
 have hc:=cnt_of (FF4.get 0 rfl)
 refine rg_c FF4 MM4 [] 5 [7] [] (fun _ _ FF5 MM5=>?_)
 by_cases hlt:i<16
 ·skip
  refine tN (.inl ⟨(FF5.ev 0 rfl).trans (dec_t hlt),?_⟩)
  refine wp_seq (rg_c FF5 MM5 [(3,w_ 1),(0,l_ 2 (iW (dg n i))),(0,t_ (iB (byteN n (2*i)))),(0,w_ 1),(0,s_ 0 (.cells (cn .u8 ((keyU n i).set (2*i) (byteN n (2*i)))) 51))] 5 [] [] (⟨by omega,by omega,rfl,(fc_get _ (by omega)),(vI (dg_b0 n i)),by omega,rfl,(by rw [cZ,(keyU_len _ _)];omega),(.inl rfl),(cn_set _ _ _ _),fun _ _ FF6 MM6=>tN ?_⟩))
  refine rg_c FF6 MM6 [(4,w_ 1),(0,l_ 2 (iW (dg n i))),(0,t_ (iW ((dg n i)/256))),(0,t_ (iB (byteN n (2*i+1)))),(0,w_ 1),(0,s_ 0 (.cells (cn .u8 (((keyU n i).set (2*i) (byteN n (2*i))).set ((2*i)+1) (byteN n (2*i+1)))) 51))] 5 [] [] (⟨by omega,by omega,by omega,rfl,(fc_get _ (by omega)),by decide,rfl,(vI (dg_b1 n i)),by omega,rfl,(by rw [cZ,(len_set (keyU_len _ _))];omega),(.inl rfl),(cn_set _ _ _ _),fun _ _ FF7 MM7=>?_⟩)
  have MMr15:MemS _ _ _ [(bo,.cells (cn .u8 (keyU n (i+1))) 51),_,_] _:=MM7.eqA 0 rfl (by rw [←keyU_step n hlt] <;> rfl)
  refine inb_n (tN ?_)
  refine rg_c FF7 MMr15 [] 5 [] [] (⟨by omega,fun _ _ FF8 MM8=>?_⟩)
  have hd:=cnt_of (FF8.get 0 rfl)
  refine tN ⟨⟨i+1,by omega,FF8.pick [0,1,2,3],MM8⟩,?_⟩
  rw [hc,hd];omega
 ·skip
  refine tN (.inr ⟨(FF5.ev 0 rfl).trans (dec_f hlt),?_⟩)
  obtain rfl:i=16:=by omega
  refine tN ?_
  refine wp_seq (rg_c FF5 MM5 [(0,b_ 0),(0,b_ 1)] 5 [] [] (⟨rfl,((cZ _ _).trans (keyU_len _ _)),rfl,((cZ _ _).trans (List.length_replicate ..)),((cZ _ _).trans (keyU_len _ _)),(cn_one _ _),rfl,fun _ _ FF9 MM9=>tN ?_⟩))
  refine wp_ret ?_
  repeat first | refine tR ?_ | refine iR ?_
  exact(retc FF9 MM9 (k:=32) (i:=1) (j:=2) Tryz.results129 rfl rfl Tryz.underlying51 rfl (by kernel_rfl) ((cZ _ _).trans (keyU_len _ _)) ⟨by rw [keyU_all],MM9.below⟩)
theorem and_248:∀v:Fin 256,v.val &&& 248=v.val/8*8:=by decide +kernel
theorem and_127:∀v:Fin 256,v.val &&& 127=v.val%128:=by decide +kernel
theorem scal_eq2 (ks:List Nat):(ks.set 0 (ks.getD 0 0/8*8)).set 31 (ks.getD 31 0%128%64+64)=scal ks:=by
 rw [scal,show ks.getD 31 0%128%64=ks.getD 31 0%64 by omega]
theorem mN_assoc (u l:Nat):mN u (mN l l)=mN (mN u l) l:=by
 unfold mN
 rw [Nat.mul_mod,Nat.mod_mod,←Nat.mul_mod,Nat.mul_mod (u*l%pN),Nat.mod_mod,←Nat.mul_mod,Nat.mul_assoc]
theorem zdg:Value.agg #[.int .u64 0,.int .u64 0,.int .u64 0,.int .u64 0,.int .u64 0,.int .u64 0,.int .u64 0,.int .u64 0,.int .u64 0,.int .u64 0,.int .u64 0,.int .u64 0,.int .u64 0,.int .u64 0,.int .u64 0,.int .u64 0]=.agg (fc 16 (fun k9=>iW (dg 0 k9))):=by
 rw [show fc 16 (fun k9=>iW (dg 0 k9))=fc 16 (fun _=>iW (0:Nat))from fc_cong fun k _=>vI (by simp [dg])]
 rfl
theorem lad_step (ks:List Nat)(u:Nat){k:Nat}(hk:k<255){L:Lad}(hL:L=((ladTo ks u (255-(k+1))).swap (bitAt ks k)).step u):ladTo ks u (255-k)=L.swap (bitAt ks k):=by
 rw [hL];exact lad_down ks u hk
theorem radd2 (x y r:Nat)(hx:x<pN)(hy:y<pN)(hr:aN x y=r)(w:World):Calls Tryz.prog 126 #[.agg (fc 16 (fun k9=>iW (dg x k9))),.agg (fc 16 (fun k9=>iW (dg y k9)))] w fun e w'=>e=.returned (.agg (fc 16 (fun k9=>iW (dg r k9))))∧Below w.heap.size w w':=by
 subst hr
 exact rAdd_any x y (Nat.lt_trans hx pN_q) (Nat.lt_trans hy pN_q) w
theorem rsub2 (x y r:Nat)(hx:x<pN)(hy:y<pN)(hr:sN x y=r)(w:World):Calls Tryz.prog 127 #[.agg (fc 16 (fun k9=>iW (dg x k9))),.agg (fc 16 (fun k9=>iW (dg y k9)))] w fun e w'=>e=.returned (.agg (fc 16 (fun k9=>iW (dg r k9))))∧Below w.heap.size w w':=by
 subst hr
 exact rSub_any x y hx hy w
theorem rmul2 (x y r:Nat)(hx:x<pN)(hy:y<pN)(hr:mN x y=r)(w:World):Calls Tryz.prog 128 #[.agg (fc 16 (fun k9=>iW (dg x k9))),.agg (fc 16 (fun k9=>iW (dg y k9)))] w fun e w'=>e=.returned (.agg (fc 16 (fun k9=>iW (dg r k9))))∧Below w.heap.size w w':=by
 subst hr
 exact rMul_any x y (Nat.lt_trans hx pN_q) (Nat.lt_trans hy pN_q) w
set_option maxHeartbeats 4000000 in
theorem rcurve_any (ks us:List Nat)(hk:KBytes ks)(hu:KBytes us)(w0:World) :
  Calls Tryz.prog 95 #[.agg (cn .u8 ks),.agg (cn .u8 us)] w0 fun e w'=>e=.returned (.agg (cn .u8 (keyL (curveN ks us))))∧Below w0.heap.size w0 w':=by
 refine eF Tryz.func95 rfl Tryz.ntmps95 (by simp) fun ac (FF:Fr 114 ac [(0,.agg (cn .u8 ks)),(1,.agg (cn .u8 us))])=>?_
 have MM:=MemS.start w0
 have h0:=hk.2 0
 have h31:=hk.2 31
 have hul:numOf us%pN<pN:=Nat.mod_lt _ (by decide)
 refine wp_seq (rg_c FF MM [(0,s_ 0 (.cells (cn .u8 ks) 51)),(0,s_ 0 (.cells (cn .u8 us) 51)),(0,s_ 0 (.cells (cn .u8 (List.replicate 32 0)) 51))] 5 [] [0,1] (⟨(by kernel_rfl),fun bk=>⟨(by kernel_rfl),fun bu=>⟨(by kernel_rfl),fun br=>fun _ _ FF1 MM1=>tN ?_⟩⟩⟩))
 refine wp_seq (rg_c FF1 MM1 [(0,w_ 1),(0,l_ 2 (iB (ks.getD 0 0))),(0,t_ (iB (ks.getD 0 0/8*8))),(0,w_ 1),(0,s_ 2 (.cells (cn .u8 (ks.set 0 (ks.getD 0 0/8*8))) 51))] 5 [] [] (⟨by decide,rfl,(cn_get _ _ _ (by rw [hk.1];decide)),by omega,by decide,(vI (and_248 ⟨ks.getD 0 0,h0⟩)),by decide,rfl,(by rw [cZ,hk.1];decide),(.inl rfl),(cn_set _ _ _ _),fun _ _ FF2 MM2=>tN ?_⟩))
 have e2:=set0_31 ks (ks.getD 0 0/8*8)
 refine wp_seq (rg_c FF2 MM2 [(0,w_ 1),(0,l_ 2 (iB (ks.getD 31 0))),(0,t_ (iB (ks.getD 31 0%128))),(0,t_ (iB (ks.getD 31 0%128%64+64))),(0,w_ 1),(0,s_ 2 (.cells (cn .u8 ((ks.set 0 (ks.getD 0 0/8*8)).set 31 (ks.getD 31 0%128%64+64))) 51))] 5 [] [] (⟨by decide,rfl,(cn_at (by rw [List.length_set,hk.1]) (by decide) e2),h31,by decide,(vI (and_127 ⟨ks.getD 31 0,h31⟩)),by omega,by decide,(vI (or_64 ⟨ks.getD 31 0%128,by omega⟩)),by decide,rfl,(by rw [cZ,(len_set hk.1)];decide),(.inl rfl),(cn_set _ _ _ _),fun _ _ FF3 MM3=>tN ?_⟩))
 have MMr9:MemS _ _ _ [_,_,(bk,.cells (cn .u8 (scal ks)) 51)] _:=MM3.eqA 2 rfl (by rw [←scal_eq2] <;> rfl)
 refine wp_seq (rg_c FF3 MMr9 [(0,b_ 1),(0,t_ (.agg (fc 16 (fun k9=>iW (dg (numOf us%pN) k9))))),(0,s_ 0 (.cells (cn .u64 (List.replicate 16 0)) 224)),(0,b_ 0)] 6 [] [3] (⟨rfl,((cZ _ _).trans hu.1),(cP en_rOf (rOf_any us ⟨hu.1,hu.2⟩) _),(by kernel_rfl),fun bx=>⟨rfl,((cZ _ _).trans (List.length_replicate ..)),(fc_size _ _),(fc_one fun _=>rfl),rfl,fun _ _ FF4 MM4=>tN ?_⟩⟩))
 refine wp_seq (rg_lay FF4 MM4 [lval (.agg (fc 16 (fun k9=>iW (dg 1 k9)))),lval (.agg (fc 16 (fun k9=>iW (dg 0 k9)))),lval (.agg (fc 16 (fun k9=>iW (dg (numOf us%pN) k9)))),lval (.agg (fc 16 (fun k9=>iW (dg 1 k9)))),lnew (.cells (cn .u64 (List.replicate 16 0)) 224) (fun b=>pT b) (some (8,.cells (fc 16 (fun k9=>iW (dg 1 k9))) 224)),lnew (.cells (cn .u64 (List.replicate 16 0)) 224) (fun b=>pT b) (some (9,.cells (fc 16 (fun k9=>iW (dg 0 k9))) 224)),lnew (.cells (cn .u64 (List.replicate 16 0)) 224) (fun b=>pT b) (some (10,.cells (fc 16 (fun k9=>iW (dg (numOf us%pN) k9))) 224)),lnew (.cells (cn .u64 (List.replicate 16 0)) 224) (fun b=>pT b) (some (11,.cells (fc 16 (fun k9=>iW (dg 1 k9))) 224)),lsto 4,lsto 5,lsto 6,lsto 7] [t_ (.agg (fc 16 (fun k9=>iW (dg 1 k9)))),t_ (.agg (fc 16 (fun k9=>iW (dg 0 k9)))),b_ 0,t_ (.agg (fc 16 (fun k9=>iW (dg 1 k9)))),o_,o_,o_,o_,o_,o_,o_,o_] [5,4,2,6,7,8,9] [CallP Tryz.prog 125 [iW 1] [] (.agg (fc 16 (fun k9=>iW (dg 1 k9)))),Value.agg (cn .u64 (List.replicate 16 0))=.agg (fc 16 (fun k9=>iW (dg 0 k9))),bx=bx,(fc 16 (fun k9=>iW (dg (numOf us%pN) k9))).size=16,CallP Tryz.prog 125 [iW 1] [] (.agg (fc 16 (fun k9=>iW (dg 1 k9))))] (fun nb=>[(9,pT (nb 7)),(8,pT (nb 6)),(7,pT (nb 5)),(6,pT (nb 4)),(5,pT bx),(4,pT br),(2,pT bk)]) (fun nb=>[((nb 4),.cells (fc 16 (fun k9=>iW (dg 1 k9))) 224),((nb 5),.cells (fc 16 (fun k9=>iW (dg 0 k9))) 224),((nb 6),.cells (fc 16 (fun k9=>iW (dg (numOf us%pN) k9))) 224),((nb 7),.cells (fc 16 (fun k9=>iW (dg 1 k9))) 224),(bx,.cells (fc 16 (fun k9=>iW (dg (numOf us%pN) k9))) 224),(br,.cells (cn .u8 (List.replicate 32 0)) 51),(bu,.cells (cn .u8 us) 51),(bk,.cells (cn .u8 (scal ks)) 51)]) (by kernel_rfl) (by kernel_rfl) (by kernel_rfl) (by kernel_rfl) (fun _=>by kernel_rfl) (fun _=>by kernel_rfl) ⟨(fun a w=>⟨rfl,by simp [execOp,go_sem,cn]⟩),⟨(fun a w=>⟨rfl,by simp [execOp,go_sem,cn]⟩),⟨(fun a w=>⟨rfl,by simp [execOp,go_sem,cn]⟩),⟨(fun a w=>⟨rfl,by simp [execOp,go_sem,cn]⟩),⟨⟨6,32,224,(cn .u64 (List.replicate 16 0)),(fc 16 (fun k9=>iW (dg 1 k9))),0,rfl,rfl,rfl,by kernel_rfl,rfl,rfl,by kernel_rfl,rfl,rfl,(show(cn .u64 (List.replicate 16 0)).size=16 from((cZ _ _).trans (List.length_replicate ..))).trans (show(fc 16 (fun k9=>iW (dg 1 k9))).size=16 from(fc_size _ _)).symm,(fc_one fun _=>rfl),(show _=some 16 by kernel_rfl).trans (congrArg some (show(fc 16 (fun k9=>iW (dg 1 k9))).size=16 from(fc_size _ _)).symm)⟩,⟨⟨7,33,224,(cn .u64 (List.replicate 16 0)),(fc 16 (fun k9=>iW (dg 0 k9))),1,rfl,rfl,rfl,by kernel_rfl,rfl,rfl,by kernel_rfl,rfl,rfl,(show(cn .u64 (List.replicate 16 0)).size=16 from((cZ _ _).trans (List.length_replicate ..))).trans (show(fc 16 (fun k9=>iW (dg 0 k9))).size=16 from(fc_size _ _)).symm,(fc_one fun _=>rfl),(show _=some 16 by kernel_rfl).trans (congrArg some (show(fc 16 (fun k9=>iW (dg 0 k9))).size=16 from(fc_size _ _)).symm)⟩,⟨⟨8,34,224,(cn .u64 (List.replicate 16 0)),(fc 16 (fun k9=>iW (dg (numOf us%pN) k9))),2,rfl,rfl,rfl,by kernel_rfl,rfl,rfl,by kernel_rfl,rfl,rfl,(show(cn .u64 (List.replicate 16 0)).size=16 from((cZ _ _).trans (List.length_replicate ..))).trans (show(fc 16 (fun k9=>iW (dg (numOf us%pN) k9))).size=16 from(fc_size _ _)).symm,(fc_one fun _=>rfl),(show _=some 16 by kernel_rfl).trans (congrArg some (show(fc 16 (fun k9=>iW (dg (numOf us%pN) k9))).size=16 from(fc_size _ _)).symm)⟩,⟨⟨9,35,224,(cn .u64 (List.replicate 16 0)),(fc 16 (fun k9=>iW (dg 1 k9))),3,rfl,rfl,rfl,by kernel_rfl,rfl,rfl,by kernel_rfl,rfl,rfl,(show(cn .u64 (List.replicate 16 0)).size=16 from((cZ _ _).trans (List.length_replicate ..))).trans (show(fc 16 (fun k9=>iW (dg 1 k9))).size=16 from(fc_size _ _)).symm,(fc_one fun _=>rfl),(show _=some 16 by kernel_rfl).trans (congrArg some (show(fc 16 (fun k9=>iW (dg 1 k9))).size=16 from(fc_size _ _)).symm)⟩,trivial⟩⟩⟩⟩⟩⟩⟩⟩ ⟨(cP en_rSmall (rSmall_any 1 (by decide)) _),zdg,rfl,(fc_size _ _),(cP en_rSmall (rSmall_any 1 (by decide)) _),trivial⟩ (fun nb ac5 wd5 FF5 MM5=>tN ?_))
 generalize nb 4=p2 at *
 generalize nb 5=q2 at *
 generalize nb 6=p3 at *
 generalize nb 7=q3 at *
 have MMr6:MemS _ _ _ [(p2,.cells (fc 16 (fun k9=>iW (dg (ladTo (scal ks) (numOf us%pN) (255-255)).x2 k9))) 224),_,_,_,_,_,_,_] _:=MM5.eqA 0 rfl (by rw [show fc 16 (fun k9=>iW (dg (ladTo (scal ks) (numOf us%pN) (255-255)).x2 k9))=fc 16 (fun k9=>iW (dg 1 k9))from fc_cong fun k _=>rfl] <;> rfl)
 have MMr7:MemS _ _ _ [_,(q2,.cells (fc 16 (fun k9=>iW (dg (ladTo (scal ks) (numOf us%pN) (255-255)).z2 k9))) 224),_,_,_,_,_,_] _:=MMr6.eqA 1 rfl (by rw [show fc 16 (fun k9=>iW (dg (ladTo (scal ks) (numOf us%pN) (255-255)).z2 k9))=fc 16 (fun k9=>iW (dg 0 k9))from fc_cong fun k _=>rfl] <;> rfl)
 have MMr8:MemS _ _ _ [_,_,(p3,.cells (fc 16 (fun k9=>iW (dg (ladTo (scal ks) (numOf us%pN) (255-255)).x3 k9))) 224),_,_,_,_,_] _:=MMr7.eqA 2 rfl (by rw [show fc 16 (fun k9=>iW (dg (ladTo (scal ks) (numOf us%pN) (255-255)).x3 k9))=fc 16 (fun k9=>iW (dg (numOf us%pN) k9))from fc_cong fun k _=>rfl] <;> rfl)
 have MMr9:MemS _ _ _ [_,_,_,(q3,.cells (fc 16 (fun k9=>iW (dg (ladTo (scal ks) (numOf us%pN) (255-255)).z3 k9))) 224),_,_,_,_] _:=MMr8.eqA 3 rfl (by rw [show fc 16 (fun k9=>iW (dg (ladTo (scal ks) (numOf us%pN) (255-255)).z3 k9))=fc 16 (fun k9=>iW (dg 1 k9))from fc_cong fun k _=>rfl] <;> rfl)
 refine wp_seq ?_
 refine wp_seq (rg_c FF5 MMr9 [] 11 [] [] (fun _ _ FF10 MM10=>tN ?_))
 refine wp_for2 (fun a' w'=>∃k:Nat,k≤255∧Fr 114 a' [(10,.int .i64 (((k:Nat):Int)-1:Int)),(9,pT q3),(8,pT p3),(7,pT q2),(6,pT p2),(5,pT bx),(4,pT br),(2,pT bk)]∧MemS (fun k=>k<w0.heap.size) w0 w' [(p2,.cells (fc 16 (fun k9=>iW (dg (ladTo (scal ks) (numOf us%pN) (255-k)).x2 k9))) 224),(q2,.cells (fc 16 (fun k9=>iW (dg (ladTo (scal ks) (numOf us%pN) (255-k)).z2 k9))) 224),(p3,.cells (fc 16 (fun k9=>iW (dg (ladTo (scal ks) (numOf us%pN) (255-k)).x3 k9))) 224),(q3,.cells (fc 16 (fun k9=>iW (dg (ladTo (scal ks) (numOf us%pN) (255-k)).z3 k9))) 224),(bx,.cells (fc 16 (fun k9=>iW (dg (numOf us%pN) k9))) 224),(br,.cells (cn .u8 (List.replicate 32 0)) 51),(bu,.cells (cn .u8 us) 51),(bk,.cells (cn .u8 (scal ks)) 51)] []) (fun a' _=>(cnt 10 a'+1).toNat) ⟨255,Nat.le_refl _,FF10.pick [0,1,2,3,4,5,6,7],MM10⟩ ?_
 rintro ac11 wd11 ⟨k,hk5,FF11,MM11⟩
 have hc:=cnt_of (FF11.get 0 rfl)
 refine rg_c FF11 MM11 [(1,w_ 4)] 11 [37] [] (fun _ _ FF12 MM12=>?_)
 by_cases hlt:(((k:Nat):Int)-1)≥((0:Nat):Int)
 ·skip
  refine tN (.inl ⟨(FF12.ev 0 rfl).trans (dec_t hlt),?_⟩)
  obtain⟨k,rfl⟩:∃z,k=z+1:=⟨k-1,by omega⟩
  have hsb:=(scal_bytes hk).2 (k/8)
  have hsd:=Nat.div_le_self ((scal ks).getD (k/8) 0) (2^(k%8))
  refine wp_seq (rg_c FF12 MM12 [(0,t_ (iN k)),(1,w_ 1),(0,l_ 7 (iB ((scal ks).getD (k/8) 0))),(0,t_ (iN k)),(2,t_ (iB (bitAt (scal ks) k)))] 12 [] [] (⟨(vZ (by omega)),by decide,by omega,by omega,rfl,(cn_get _ _ _ (by rw [(scal_bytes hk).1];omega)),(vZ (by omega)),by decide,(by show _≤8;have:=(scal_bytes hk).2 (k/8);omega),by omega,by decide,(vI (Nat.and_one_is_mod _)),fun _ _ FF13 MM13=>tN ?_⟩))
  have hok:(ladTo (scal ks) (numOf us%pN) (255-(k+1))).ok:=ladTo_ok _ _ hul _
  obtain⟨L1,hL1⟩:∃l,l=(ladTo (scal ks) (numOf us%pN) (255-(k+1))):=⟨_,rfl⟩
  have MMr14:MemS _ _ _ [(p2,.cells (fc 16 (fun k9=>iW (dg L1.x2 k9))) 224),_,_,_,_,_,_,_] _:=MM13.eqA 0 rfl (by rw [show fc 16 (fun k9=>iW (dg L1.x2 k9))=fc 16 (fun k9=>iW (dg (ladTo (scal ks) (numOf us%pN) (255-(k+1))).x2 k9))from fc_cong fun j _=>by rw [hL1]] <;> rfl)
  have MMr15:MemS _ _ _ [_,(q2,.cells (fc 16 (fun k9=>iW (dg L1.z2 k9))) 224),_,_,_,_,_,_] _:=MMr14.eqA 1 rfl (by rw [show fc 16 (fun k9=>iW (dg L1.z2 k9))=fc 16 (fun k9=>iW (dg (ladTo (scal ks) (numOf us%pN) (255-(k+1))).z2 k9))from fc_cong fun j _=>by rw [hL1]] <;> rfl)
  have MMr16:MemS _ _ _ [_,_,(p3,.cells (fc 16 (fun k9=>iW (dg L1.x3 k9))) 224),_,_,_,_,_] _:=MMr15.eqA 2 rfl (by rw [show fc 16 (fun k9=>iW (dg L1.x3 k9))=fc 16 (fun k9=>iW (dg (ladTo (scal ks) (numOf us%pN) (255-(k+1))).x3 k9))from fc_cong fun j _=>by rw [hL1]] <;> rfl)
  have MMr17:MemS _ _ _ [_,_,_,(q3,.cells (fc 16 (fun k9=>iW (dg L1.z3 k9))) 224),_,_,_,_] _:=MMr16.eqA 3 rfl (by rw [show fc 16 (fun k9=>iW (dg L1.z3 k9))=fc 16 (fun k9=>iW (dg (ladTo (scal ks) (numOf us%pN) (255-(k+1))).z3 k9))from fc_cong fun j _=>by rw [hL1]] <;> rfl)
  rw [←hL1]at hok
  refine wp_mid (fun a' w'=>Fr 114 a' [(11,iB (bitAt (scal ks) k)),(10,.int .i64 ((((k+1):Nat):Int)-1:Int)),(9,pT q3),(8,pT p3),(7,pT q2),(6,pT p2),(5,pT bx),(4,pT br),(2,pT bk)]∧MemS (fun k=>k<w0.heap.size) w0 w' [(p2,.cells (fc 16 (fun k9=>iW (dg (L1.swap (bitAt (scal ks) k)).x2 k9))) 224),(q2,.cells (fc 16 (fun k9=>iW (dg (L1.swap (bitAt (scal ks) k)).z2 k9))) 224),(p3,.cells (fc 16 (fun k9=>iW (dg (L1.swap (bitAt (scal ks) k)).x3 k9))) 224),(q3,.cells (fc 16 (fun k9=>iW (dg (L1.swap (bitAt (scal ks) k)).z3 k9))) 224),(bx,.cells (fc 16 (fun k9=>iW (dg (numOf us%pN) k9))) 224),(br,.cells (cn .u8 (List.replicate 32 0)) 51),(bu,.cells (cn .u8 us) 51),(bk,.cells (cn .u8 (scal ks)) 51)] []) ?_ ?_
  ·skip
   refine wp_seq (rg_c FF13 MMr17 [] 12 [49] [] (fun _ _ FF18 MM18=>tN ?_))
   by_cases hs49:(bitAt (scal ks) k)=1
   ·refine wp_cond_true ((FF18.ev 0 rfl).trans (dec_t hs49)) ?_
    refine wp_via (fun a' w'=>Fr 114 a' [(11,iB (bitAt (scal ks) k)),(10,.int .i64 ((((k+1):Nat):Int)-1:Int)),(9,pT q3),(8,pT p3),(7,pT q2),(6,pT p2),(5,pT bx),(4,pT br),(2,pT bk)]∧MemS (fun k=>k<w0.heap.size) w0 w' [(p2,.cells (fc 16 (fun k9=>iW (dg L1.x3 k9))) 224),(q2,.cells (fc 16 (fun k9=>iW (dg L1.z3 k9))) 224),(p3,.cells (fc 16 (fun k9=>iW (dg L1.x2 k9))) 224),(q3,.cells (fc 16 (fun k9=>iW (dg L1.z2 k9))) 224),(bx,.cells (fc 16 (fun k9=>iW (dg (numOf us%pN) k9))) 224),(br,.cells (cn .u8 (List.replicate 32 0)) 51),(bu,.cells (cn .u8 us) 51),(bk,.cells (cn .u8 (scal ks)) 51)] []) ?_ ?_
    ·skip
     refine late_standT (N:=8) [(p3,.cells (fc 16 (fun k9=>iW (dg L1.x3 k9))) 224),(q3,.cells (fc 16 (fun k9=>iW (dg L1.z3 k9))) 224)] [6,7] (by kernel_rfl) (by kernel_rfl) MM18 fun wq19 (MM20:MemS (fun k=>k<w0.heap.size) w0 wq19 [(p2,.cells (fc 16 (fun k9=>iW (dg L1.x2 k9))) 224),(q2,.cells (fc 16 (fun k9=>iW (dg L1.z2 k9))) 224),(p3,.cells (fc 16 (fun k9=>iW (dg L1.x3 k9))) 224),(q3,.cells (fc 16 (fun k9=>iW (dg L1.z3 k9))) 224),(bx,.cells (fc 16 (fun k9=>iW (dg (numOf us%pN) k9))) 224),(br,.cells (cn .u8 (List.replicate 32 0)) 51),(bu,.cells (cn .u8 us) 51),(bk,.cells (cn .u8 (scal ks)) 51)] [])=>?_
     refine lT FF18 (i:=0) (oi:=(opAt Tryz.f95 10 0)) (v:=(.agg (fc 16 (fun k9=>iW (dg L1.x3 k9))))) (d:=50) (atL_has (is:=[2,3]) rfl MM20.hasL) (by kernel_rfl) (by kernel_rfl) (by kernel_rfl) (by kernel_rfl) (by kernel_rfl) (fun _ _ _ _ _ h=>h) (by kernel_rfl) (by decide) (by kernel_rfl) (loadRi (x:=(.tmp 8)) (k:=0) (m:=16) (by kernel_rfl) rfl Tryz.underlying224 rfl (by kernel_rfl) rfl (fc_size _ _)) fun _ FF21=>?_
     refine lT FF21 (i:=1) (oi:=(opAt Tryz.f95 10 1)) (v:=(.agg (fc 16 (fun k9=>iW (dg L1.z3 k9))))) (d:=51) (atL_has (is:=[2,3]) rfl MM20.hasL) (by kernel_rfl) (by kernel_rfl) (by kernel_rfl) (by kernel_rfl) (by kernel_rfl) (fun _ _ _ _ _ h=>h) (by kernel_rfl) (by decide) (by kernel_rfl) (loadRi (x:=(.tmp 9)) (k:=1) (m:=16) (by kernel_rfl) rfl Tryz.underlying224 rfl (by kernel_rfl) rfl (fc_size _ _)) fun _ FF22=>?_
     refine late_two (i:=2) (oi:=(opAt Tryz.f95 10 2)) (j:=3) (oj:=(opAt Tryz.f95 10 3)) (by kernel_rfl) (by kernel_rfl) (by kernel_rfl) ?_ ?_
     ·skip
      refine rp_c 1 FF22 MM20 [(0,b_ 0)] 53 [] [49] (⟨rfl,(fc_size _ _),fun _ _ FF23 MM23=>?_⟩)
      refine wpl_nil (onN_n ⟨fun _=>(atL_has (is:=[2,3]) rfl MM23.hasL),?_⟩)
      refine lO (i:=3) (oi:=(opAt Tryz.f95 10 3)) (by kernel_rfl) (by kernel_rfl) ?_
      refine rp_c 1 FF23 MM23 [(0,b_ 1)] 54 [] [] (⟨rfl,(fc_size _ _),fun _ _ FF24 MM24=>?_⟩)
      refine wpl_nil (onN_n ⟨fun _=>(atL_has (is:=[2,3]) rfl MM24.hasL),?_⟩)
      refine lO (i:=4) (oi:=(opAt Tryz.f95 10 4)) (by kernel_rfl) (by kernel_rfl) ?_
      refine rp_c 1 FF24 MM24 [(0,b_ 0)] 54 [] [50] (⟨rfl,(fc_size _ _),(fc_size _ _),(fc_one fun _=>rfl),rfl,fun _ _ FF25 MM25=>?_⟩)
      refine wpl_nil (onN_n ⟨fun _=>(atL_has (is:=[2,3]) rfl MM25.hasL),?_⟩)
      refine lO (i:=5) (oi:=(opAt Tryz.f95 10 5)) (by kernel_rfl) (by kernel_rfl) ?_
      refine rp_c 1 FF25 MM25 [(0,b_ 1)] 54 [] [51] (⟨rfl,(fc_size _ _),(fc_size _ _),(fc_one fun _=>rfl),rfl,fun _ _ FF26 MM26=>?_⟩)
      refine wpl_nil (onN_n ⟨fun _=>(atL_has (is:=[2,3]) rfl MM26.hasL),?_⟩)
      refine lO (i:=6) (oi:=(opAt Tryz.f95 10 6)) (by kernel_rfl) (by kernel_rfl) ?_
      refine rp_c 1 FF26 MM26 [(0,b_ 2)] 12 [53] [] (⟨rfl,(fc_size _ _),(fc_size _ _),(fc_one fun _=>rfl),rfl,fun _ _ FF27 MM27=>?_⟩)
      refine wpl_nil (onN_n ⟨fun h=>(h (by decide)).elim,?_⟩)
      refine lO (i:=7) (oi:=(opAt Tryz.f95 10 7)) (by kernel_rfl) (by kernel_rfl) ?_
      refine rp_c 1 FF27 MM27 [(0,b_ 3)] 12 [] [] (⟨rfl,(fc_size _ _),(fc_size _ _),(fc_one fun _=>rfl),rfl,fun _ _ FF28 MM28=>?_⟩)
      refine wpl_nil (onN_n ⟨fun h=>(h (by decide)).elim,?_⟩)
      refine late_none (by kernel_rfl) (tN ?_)
      exact⟨FF28.pick [0,1,2,3,4,5,6,7,8],MM28⟩
     ·skip
      refine rp_c 1 FF22 MM20 [(0,b_ 1)] 54 [] [49] (⟨rfl,(fc_size _ _),fun _ _ FF29 MM29=>?_⟩)
      refine wpl_nil (onN_n ⟨fun _=>(atL_has (is:=[2,3]) rfl MM29.hasL),?_⟩)
      refine lO (i:=2) (oi:=(opAt Tryz.f95 10 2)) (by kernel_rfl) (by kernel_rfl) ?_
      refine rp_c 1 FF29 MM29 [(0,b_ 0)] 54 [] [] (⟨rfl,(fc_size _ _),fun _ _ FF30 MM30=>?_⟩)
      refine wpl_nil (onN_n ⟨fun _=>(atL_has (is:=[2,3]) rfl MM30.hasL),?_⟩)
      refine lO (i:=4) (oi:=(opAt Tryz.f95 10 4)) (by kernel_rfl) (by kernel_rfl) ?_
      refine rp_c 1 FF30 MM30 [(0,b_ 0)] 54 [] [50] (⟨rfl,(fc_size _ _),(fc_size _ _),(fc_one fun _=>rfl),rfl,fun _ _ FF31 MM31=>?_⟩)
      refine wpl_nil (onN_n ⟨fun _=>(atL_has (is:=[2,3]) rfl MM31.hasL),?_⟩)
      refine lO (i:=5) (oi:=(opAt Tryz.f95 10 5)) (by kernel_rfl) (by kernel_rfl) ?_
      refine rp_c 1 FF31 MM31 [(0,b_ 1)] 54 [] [51] (⟨rfl,(fc_size _ _),(fc_size _ _),(fc_one fun _=>rfl),rfl,fun _ _ FF32 MM32=>?_⟩)
      refine wpl_nil (onN_n ⟨fun _=>(atL_has (is:=[2,3]) rfl MM32.hasL),?_⟩)
      refine lO (i:=6) (oi:=(opAt Tryz.f95 10 6)) (by kernel_rfl) (by kernel_rfl) ?_
      refine rp_c 1 FF32 MM32 [(0,b_ 2)] 12 [53] [] (⟨rfl,(fc_size _ _),(fc_size _ _),(fc_one fun _=>rfl),rfl,fun _ _ FF33 MM33=>?_⟩)
      refine wpl_nil (onN_n ⟨fun h=>(h (by decide)).elim,?_⟩)
      refine lO (i:=7) (oi:=(opAt Tryz.f95 10 7)) (by kernel_rfl) (by kernel_rfl) ?_
      refine rp_c 1 FF33 MM33 [(0,b_ 3)] 12 [] [] (⟨rfl,(fc_size _ _),(fc_size _ _),(fc_one fun _=>rfl),rfl,fun _ _ FF34 MM34=>?_⟩)
      refine wpl_nil (onN_n ⟨fun h=>(h (by decide)).elim,?_⟩)
      refine late_none (by kernel_rfl) (tN ?_)
      exact⟨FF34.pick [0,1,2,3,4,5,6,7,8],MM34⟩
    ·rintro ac35 wd35 ⟨FF35,MM35⟩
     refine tN ?_
     have MMr36:MemS _ _ _ [(p2,.cells (fc 16 (fun k9=>iW (dg (L1.swap (bitAt (scal ks) k)).x2 k9))) 224),_,_,_,_,_,_,_] _:=MM35.eqA 0 rfl (by rw [show fc 16 (fun k9=>iW (dg (L1.swap (bitAt (scal ks) k)).x2 k9))=fc 16 (fun k9=>iW (dg L1.x3 k9))from fc_cong fun j _=>by rw [Lad.swap,if_pos hs49]] <;> rfl)
     have MMr37:MemS _ _ _ [_,(q2,.cells (fc 16 (fun k9=>iW (dg (L1.swap (bitAt (scal ks) k)).z2 k9))) 224),_,_,_,_,_,_] _:=MMr36.eqA 1 rfl (by rw [show fc 16 (fun k9=>iW (dg (L1.swap (bitAt (scal ks) k)).z2 k9))=fc 16 (fun k9=>iW (dg L1.z3 k9))from fc_cong fun j _=>by rw [Lad.swap,if_pos hs49]] <;> rfl)
     have MMr38:MemS _ _ _ [_,_,(p3,.cells (fc 16 (fun k9=>iW (dg (L1.swap (bitAt (scal ks) k)).x3 k9))) 224),_,_,_,_,_] _:=MMr37.eqA 2 rfl (by rw [show fc 16 (fun k9=>iW (dg (L1.swap (bitAt (scal ks) k)).x3 k9))=fc 16 (fun k9=>iW (dg L1.x2 k9))from fc_cong fun j _=>by rw [Lad.swap,if_pos hs49]] <;> rfl)
     have MMr39:MemS _ _ _ [_,_,_,(q3,.cells (fc 16 (fun k9=>iW (dg (L1.swap (bitAt (scal ks) k)).z3 k9))) 224),_,_,_,_] _:=MMr38.eqA 3 rfl (by rw [show fc 16 (fun k9=>iW (dg (L1.swap (bitAt (scal ks) k)).z3 k9))=fc 16 (fun k9=>iW (dg L1.z2 k9))from fc_cong fun j _=>by rw [Lad.swap,if_pos hs49]] <;> rfl)
     exact⟨FF35.pick [0,1,2,3,4,5,6,7,8],MMr39⟩
   ·refine wp_cond_false ((FF18.ev 0 rfl).trans (dec_f hs49)) ?_
    refine wp_skip ?_
    refine tN ?_
    have MMr40:MemS _ _ _ [(p2,.cells (fc 16 (fun k9=>iW (dg (L1.swap (bitAt (scal ks) k)).x2 k9))) 224),_,_,_,_,_,_,_] _:=MM18.eqA 0 rfl (by rw [show fc 16 (fun k9=>iW (dg (L1.swap (bitAt (scal ks) k)).x2 k9))=fc 16 (fun k9=>iW (dg L1.x2 k9))from fc_cong fun j _=>by rw [Lad.swap,if_neg hs49]] <;> rfl)
    have MMr41:MemS _ _ _ [_,(q2,.cells (fc 16 (fun k9=>iW (dg (L1.swap (bitAt (scal ks) k)).z2 k9))) 224),_,_,_,_,_,_] _:=MMr40.eqA 1 rfl (by rw [show fc 16 (fun k9=>iW (dg (L1.swap (bitAt (scal ks) k)).z2 k9))=fc 16 (fun k9=>iW (dg L1.z2 k9))from fc_cong fun j _=>by rw [Lad.swap,if_neg hs49]] <;> rfl)
    have MMr42:MemS _ _ _ [_,_,(p3,.cells (fc 16 (fun k9=>iW (dg (L1.swap (bitAt (scal ks) k)).x3 k9))) 224),_,_,_,_,_] _:=MMr41.eqA 2 rfl (by rw [show fc 16 (fun k9=>iW (dg (L1.swap (bitAt (scal ks) k)).x3 k9))=fc 16 (fun k9=>iW (dg L1.x3 k9))from fc_cong fun j _=>by rw [Lad.swap,if_neg hs49]] <;> rfl)
    have MMr43:MemS _ _ _ [_,_,_,(q3,.cells (fc 16 (fun k9=>iW (dg (L1.swap (bitAt (scal ks) k)).z3 k9))) 224),_,_,_,_] _:=MMr42.eqA 3 rfl (by rw [show fc 16 (fun k9=>iW (dg (L1.swap (bitAt (scal ks) k)).z3 k9))=fc 16 (fun k9=>iW (dg L1.z3 k9))from fc_cong fun j _=>by rw [Lad.swap,if_neg hs49]] <;> rfl)
    exact⟨FF18.pick [1,2,3,4,5,6,7,8,9],MMr43⟩
  ·rintro ac44 wd44 ⟨FF44,MM44⟩
   obtain⟨L2,hL2⟩:∃l,l=(L1.swap (bitAt (scal ks) k)):=⟨_,rfl⟩
   have MMr45:MemS _ _ _ [(p2,.cells (fc 16 (fun k9=>iW (dg L2.x2 k9))) 224),_,_,_,_,_,_,_] _:=MM44.eqA 0 rfl (by rw [show fc 16 (fun k9=>iW (dg L2.x2 k9))=fc 16 (fun k9=>iW (dg (L1.swap (bitAt (scal ks) k)).x2 k9))from fc_cong fun j _=>by rw [hL2]] <;> rfl)
   have MMr46:MemS _ _ _ [_,(q2,.cells (fc 16 (fun k9=>iW (dg L2.z2 k9))) 224),_,_,_,_,_,_] _:=MMr45.eqA 1 rfl (by rw [show fc 16 (fun k9=>iW (dg L2.z2 k9))=fc 16 (fun k9=>iW (dg (L1.swap (bitAt (scal ks) k)).z2 k9))from fc_cong fun j _=>by rw [hL2]] <;> rfl)
   have MMr47:MemS _ _ _ [_,_,(p3,.cells (fc 16 (fun k9=>iW (dg L2.x3 k9))) 224),_,_,_,_,_] _:=MMr46.eqA 2 rfl (by rw [show fc 16 (fun k9=>iW (dg L2.x3 k9))=fc 16 (fun k9=>iW (dg (L1.swap (bitAt (scal ks) k)).x3 k9))from fc_cong fun j _=>by rw [hL2]] <;> rfl)
   have MMr48:MemS _ _ _ [_,_,_,(q3,.cells (fc 16 (fun k9=>iW (dg L2.z3 k9))) 224),_,_,_,_] _:=MMr47.eqA 3 rfl (by rw [show fc 16 (fun k9=>iW (dg L2.z3 k9))=fc 16 (fun k9=>iW (dg (L1.swap (bitAt (scal ks) k)).z3 k9))from fc_cong fun j _=>by rw [hL2]] <;> rfl)
   have hl:L2.ok:=hL2▸swap_ok hok
   refine wp_seq (rg_c FF44 MMr48 [(0,b_ 0),(0,b_ 1),(0,t_ (.agg (fc 16 (fun k9=>iW (dg (lA L2) k9))))),(0,s_ 0 (.cells (cn .u64 (List.replicate 16 0)) 224)),(0,b_ 0)] 13 [] [] (⟨rfl,(fc_size _ _),rfl,(fc_size _ _),(cP en_rAdd (radd2 L2.x2 L2.z2 (lA L2) hl.1 hl.2.1 rfl) _),(by kernel_rfl),fun pa=>⟨rfl,((cZ _ _).trans (List.length_replicate ..)),(fc_size _ _),(fc_one fun _=>rfl),rfl,fun _ _ FF49 MM49=>tN ?_⟩⟩))
   refine wp_seq (rg_c FF49 MM49 [(0,b_ 1),(0,b_ 2),(0,t_ (.agg (fc 16 (fun k9=>iW (dg (lB L2) k9))))),(0,s_ 0 (.cells (cn .u64 (List.replicate 16 0)) 224)),(0,b_ 0)] 14 [] [] (⟨rfl,(fc_size _ _),rfl,(fc_size _ _),(cP en_rSub (rsub2 L2.x2 L2.z2 (lB L2) hl.1 hl.2.1 rfl) _),(by kernel_rfl),fun pb=>⟨rfl,((cZ _ _).trans (List.length_replicate ..)),(fc_size _ _),(fc_one fun _=>rfl),rfl,fun _ _ FF50 MM50=>tN ?_⟩⟩))
   refine wp_seq (rg_c FF50 MM50 [(0,b_ 1),(0,b_ 1),(0,t_ (.agg (fc 16 (fun k9=>iW (dg (lAA L2) k9))))),(0,s_ 0 (.cells (cn .u64 (List.replicate 16 0)) 224)),(0,b_ 0)] 15 [] [] (⟨rfl,(fc_size _ _),rfl,(fc_size _ _),(cP en_rMul (rmul2 (lA L2) (lA L2) (lAA L2) (aN_lt _ _) (aN_lt _ _) rfl) _),(by kernel_rfl),fun paa=>⟨rfl,((cZ _ _).trans (List.length_replicate ..)),(fc_size _ _),(fc_one fun _=>rfl),rfl,fun _ _ FF51 MM51=>tN ?_⟩⟩))
   refine wp_seq (rg_c FF51 MM51 [(0,b_ 1),(0,b_ 1),(0,t_ (.agg (fc 16 (fun k9=>iW (dg (lBB L2) k9))))),(0,s_ 0 (.cells (cn .u64 (List.replicate 16 0)) 224)),(0,b_ 0)] 16 [] [] (⟨rfl,(fc_size _ _),rfl,(fc_size _ _),(cP en_rMul (rmul2 (lB L2) (lB L2) (lBB L2) (sN_lt _ _) (sN_lt _ _) rfl) _),(by kernel_rfl),fun pbb=>⟨rfl,((cZ _ _).trans (List.length_replicate ..)),(fc_size _ _),(fc_one fun _=>rfl),rfl,fun _ _ FF52 MM52=>tN ?_⟩⟩))
   refine wp_seq (rg_c FF52 MM52 [(0,b_ 1),(0,b_ 0),(0,t_ (.agg (fc 16 (fun k9=>iW (dg (lE L2) k9))))),(0,s_ 0 (.cells (cn .u64 (List.replicate 16 0)) 224)),(0,b_ 0)] 17 [] [] (⟨rfl,(fc_size _ _),rfl,(fc_size _ _),(cP en_rSub (rsub2 (lAA L2) (lBB L2) (lE L2) (mN_lt _ _) (mN_lt _ _) rfl) _),(by kernel_rfl),fun pe=>⟨rfl,((cZ _ _).trans (List.length_replicate ..)),(fc_size _ _),(fc_one fun _=>rfl),rfl,fun _ _ FF53 MM53=>tN ?_⟩⟩))
   refine wp_seq (rg_draw FF53 MM53 [.inl (.agg (fc 16 (fun k9=>iW (dg L2.x3 k9)))),.inl (.agg (fc 16 (fun k9=>iW (dg L2.z3 k9)))),.inl (.agg (fc 16 (fun k9=>iW (dg (sN L2.x3 L2.z3) k9)))),.inl (.agg (fc 16 (fun k9=>iW (dg (lA L2) k9)))),.inl (.agg (fc 16 (fun k9=>iW (dg (lDA L2) k9)))),.inr (.cells (cn .u64 (List.replicate 16 0)) 224,fun b=>pT b)] [5] [b_ 7,b_ 8,t_ (.agg (fc 16 (fun k9=>iW (dg (sN L2.x3 L2.z3) k9)))),b_ 4,t_ (.agg (fc 16 (fun k9=>iW (dg (lDA L2) k9)))),o_] [b_ 0] [16,15,14,13,12,11,10,9,8,7,6,5,4,2,17] (fun nb=>[p3=p3,(fc 16 (fun k9=>iW (dg L2.x3 k9))).size=16,q3=q3,(fc 16 (fun k9=>iW (dg L2.z3 k9))).size=16,CallP Tryz.prog 127 [.agg (fc 16 (fun k9=>iW (dg L2.x3 k9))),.agg (fc 16 (fun k9=>iW (dg L2.z3 k9)))] [] (.agg (fc 16 (fun k9=>iW (dg (sN L2.x3 L2.z3) k9)))),pa=pa,(fc 16 (fun k9=>iW (dg (lA L2) k9))).size=16,CallP Tryz.prog 128 [.agg (fc 16 (fun k9=>iW (dg (sN L2.x3 L2.z3) k9))),.agg (fc 16 (fun k9=>iW (dg (lA L2) k9)))] [] (.agg (fc 16 (fun k9=>iW (dg (lDA L2) k9))))]) (fun nb Kt=>(nb 5)=(nb 5)∧(cn .u64 (List.replicate 16 0)).size=16∧(fc 16 (fun k9=>iW (dg (lDA L2) k9))).size=16∧(fc 16 (fun k9=>iW (dg (lDA L2) k9))).all (·.oneCell')=true∧(0,0).2=0∧Kt [(17,pT (nb 5)),(16,pT pe),(15,pT pbb),(14,pT paa),(13,pT pb),(12,pT pa),(11,iB (bitAt (scal ks) k)),(10,.int .i64 ((((k+1):Nat):Int)-1:Int)),(9,pT q3),(8,pT p3),(7,pT q2),(6,pT p2),(5,pT bx),(4,pT br),(2,pT bk)] [((nb 5),.cells (fc 16 (fun k9=>iW (dg (lDA L2) k9))) 224),(pe,.cells (fc 16 (fun k9=>iW (dg (lE L2) k9))) 224),(pbb,.cells (fc 16 (fun k9=>iW (dg (lBB L2) k9))) 224),(paa,.cells (fc 16 (fun k9=>iW (dg (lAA L2) k9))) 224),(pb,.cells (fc 16 (fun k9=>iW (dg (lB L2) k9))) 224),(pa,.cells (fc 16 (fun k9=>iW (dg (lA L2) k9))) 224),(p2,.cells (fc 16 (fun k9=>iW (dg L2.x2 k9))) 224),(q2,.cells (fc 16 (fun k9=>iW (dg L2.z2 k9))) 224),(p3,.cells (fc 16 (fun k9=>iW (dg L2.x3 k9))) 224),(q3,.cells (fc 16 (fun k9=>iW (dg L2.z3 k9))) 224),(bx,.cells (fc 16 (fun k9=>iW (dg (numOf us%pN) k9))) 224),(br,.cells (cn .u8 (List.replicate 32 0)) 51),(bu,.cells (cn .u8 us) 51),(bk,.cells (cn .u8 (scal ks)) 51)]) (by kernel_rfl) (by kernel_rfl) (by kernel_rfl) (fun _=>by kernel_rfl) (fun _ _=>by kernel_rfl) ⟨⟨_,rfl⟩,rfl,trivial⟩ (fun nb=>⟨rfl,(fc_size _ _),rfl,(fc_size _ _),(cP en_rSub (rsub2 L2.x3 L2.z3 (sN L2.x3 L2.z3) hl.2.2.1 hl.2.2.2 rfl) _),rfl,(fc_size _ _),(cP en_rMul (rmul2 (sN L2.x3 L2.z3) (lA L2) (lDA L2) (sN_lt _ _) (aN_lt _ _) rfl) _),trivial⟩) (fun nb=>⟨rfl,((cZ _ _).trans (List.length_replicate ..)),(fc_size _ _),(fc_one fun _=>rfl),rfl,fun _ _ FF54 MM54=>tN ?_⟩))
   generalize nb 5=pda at *
   refine wp_seq (rg_draw FF54 MM54 [.inl (.agg (fc 16 (fun k9=>iW (dg L2.x3 k9)))),.inl (.agg (fc 16 (fun k9=>iW (dg L2.z3 k9)))),.inl (.agg (fc 16 (fun k9=>iW (dg (aN L2.x3 L2.z3) k9)))),.inl (.agg (fc 16 (fun k9=>iW (dg (lB L2) k9)))),.inl (.agg (fc 16 (fun k9=>iW (dg (lCB L2) k9)))),.inr (.cells (cn .u64 (List.replicate 16 0)) 224,fun b=>pT b)] [5] [b_ 8,b_ 9,t_ (.agg (fc 16 (fun k9=>iW (dg (aN L2.x3 L2.z3) k9)))),b_ 4,t_ (.agg (fc 16 (fun k9=>iW (dg (lCB L2) k9)))),o_] [b_ 0] [17,16,15,14,13,12,11,10,9,8,7,6,5,4,2,18] (fun nb=>[p3=p3,(fc 16 (fun k9=>iW (dg L2.x3 k9))).size=16,q3=q3,(fc 16 (fun k9=>iW (dg L2.z3 k9))).size=16,CallP Tryz.prog 126 [.agg (fc 16 (fun k9=>iW (dg L2.x3 k9))),.agg (fc 16 (fun k9=>iW (dg L2.z3 k9)))] [] (.agg (fc 16 (fun k9=>iW (dg (aN L2.x3 L2.z3) k9)))),pb=pb,(fc 16 (fun k9=>iW (dg (lB L2) k9))).size=16,CallP Tryz.prog 128 [.agg (fc 16 (fun k9=>iW (dg (aN L2.x3 L2.z3) k9))),.agg (fc 16 (fun k9=>iW (dg (lB L2) k9)))] [] (.agg (fc 16 (fun k9=>iW (dg (lCB L2) k9))))]) (fun nb Kt=>(nb 5)=(nb 5)∧(cn .u64 (List.replicate 16 0)).size=16∧(fc 16 (fun k9=>iW (dg (lCB L2) k9))).size=16∧(fc 16 (fun k9=>iW (dg (lCB L2) k9))).all (·.oneCell')=true∧(0,0).2=0∧Kt [(18,pT (nb 5)),(17,pT pda),(16,pT pe),(15,pT pbb),(14,pT paa),(13,pT pb),(12,pT pa),(11,iB (bitAt (scal ks) k)),(10,.int .i64 ((((k+1):Nat):Int)-1:Int)),(9,pT q3),(8,pT p3),(7,pT q2),(6,pT p2),(5,pT bx),(4,pT br),(2,pT bk)] [((nb 5),.cells (fc 16 (fun k9=>iW (dg (lCB L2) k9))) 224),(pda,.cells (fc 16 (fun k9=>iW (dg (lDA L2) k9))) 224),(pe,.cells (fc 16 (fun k9=>iW (dg (lE L2) k9))) 224),(pbb,.cells (fc 16 (fun k9=>iW (dg (lBB L2) k9))) 224),(paa,.cells (fc 16 (fun k9=>iW (dg (lAA L2) k9))) 224),(pb,.cells (fc 16 (fun k9=>iW (dg (lB L2) k9))) 224),(pa,.cells (fc 16 (fun k9=>iW (dg (lA L2) k9))) 224),(p2,.cells (fc 16 (fun k9=>iW (dg L2.x2 k9))) 224),(q2,.cells (fc 16 (fun k9=>iW (dg L2.z2 k9))) 224),(p3,.cells (fc 16 (fun k9=>iW (dg L2.x3 k9))) 224),(q3,.cells (fc 16 (fun k9=>iW (dg L2.z3 k9))) 224),(bx,.cells (fc 16 (fun k9=>iW (dg (numOf us%pN) k9))) 224),(br,.cells (cn .u8 (List.replicate 32 0)) 51),(bu,.cells (cn .u8 us) 51),(bk,.cells (cn .u8 (scal ks)) 51)]) (by kernel_rfl) (by kernel_rfl) (by kernel_rfl) (fun _=>by kernel_rfl) (fun _ _=>by kernel_rfl) ⟨⟨_,rfl⟩,rfl,trivial⟩ (fun nb=>⟨rfl,(fc_size _ _),rfl,(fc_size _ _),(cP en_rAdd (radd2 L2.x3 L2.z3 (aN L2.x3 L2.z3) hl.2.2.1 hl.2.2.2 rfl) _),rfl,(fc_size _ _),(cP en_rMul (rmul2 (aN L2.x3 L2.z3) (lB L2) (lCB L2) (aN_lt _ _) (sN_lt _ _) rfl) _),trivial⟩) (fun nb=>⟨rfl,((cZ _ _).trans (List.length_replicate ..)),(fc_size _ _),(fc_one fun _=>rfl),rfl,fun _ _ FF55 MM55=>tN ?_⟩))
   generalize nb 5=pcb at *
   refine wp_seq (rg_c FF55 MM55 [(0,b_ 1),(0,b_ 0),(0,t_ (.agg (fc 16 (fun k9=>iW (dg (lS L2) k9))))),(0,s_ 0 (.cells (cn .u64 (List.replicate 16 0)) 224)),(0,b_ 0)] 20 [] [] (⟨rfl,(fc_size _ _),rfl,(fc_size _ _),(cP en_rAdd (radd2 (lDA L2) (lCB L2) (lS L2) (mN_lt _ _) (mN_lt _ _) rfl) _),(by kernel_rfl),fun ps=>⟨rfl,((cZ _ _).trans (List.length_replicate ..)),(fc_size _ _),(fc_one fun _=>rfl),rfl,fun _ _ FF56 MM56=>tN ?_⟩⟩))
   refine wp_seq (rg_c FF56 MM56 [(0,b_ 2),(0,b_ 1),(0,t_ (.agg (fc 16 (fun k9=>iW (dg (lL L2) k9))))),(0,s_ 0 (.cells (cn .u64 (List.replicate 16 0)) 224)),(0,b_ 0)] 21 [] [] (⟨rfl,(fc_size _ _),rfl,(fc_size _ _),(cP en_rSub (rsub2 (lDA L2) (lCB L2) (lL L2) (mN_lt _ _) (mN_lt _ _) rfl) _),(by kernel_rfl),fun pd=>⟨rfl,((cZ _ _).trans (List.length_replicate ..)),(fc_size _ _),(fc_one fun _=>rfl),rfl,fun _ _ FF57 MM57=>tN ?_⟩⟩))
   refine wp_seq (rg_c FF57 MM57 [(0,b_ 1),(0,b_ 1),(0,t_ (.agg (fc 16 (fun k9=>iW (dg (L2.step (numOf us%pN)).x3 k9))))),(0,b_ 11)] 21 [] [] (⟨rfl,(fc_size _ _),rfl,(fc_size _ _),(cP en_rMul (rmul2 (lS L2) (lS L2) ((L2.step (numOf us%pN)).x3) (aN_lt _ _) (aN_lt _ _) rfl) _),rfl,(fc_size _ _),(fc_size _ _),(fc_one fun _=>rfl),rfl,fun _ _ FF58 MM58=>tN ?_⟩))
   refine wp_seq (rg_dc 5 FF58 MM58 [(0,b_ 13),(0,b_ 0),(0,b_ 0),(0,t_ (.agg (fc 16 (fun k9=>iW (dg (mN (lL L2) (lL L2)) k9))))),(0,t_ (.agg (fc 16 (fun k9=>iW (dg (L2.step (numOf us%pN)).z3 k9)))))] [(0,b_ 12)] 21 [] [] (⟨rfl,(fc_size _ _),rfl,(fc_size _ _),rfl,(fc_size _ _),(cP en_rMul (rmul2 (lL L2) (lL L2) (mN (lL L2) (lL L2)) (sN_lt _ _) (sN_lt _ _) rfl) _),(cP en_rMul (rmul2 (numOf us%pN) (mN (lL L2) (lL L2)) ((L2.step (numOf us%pN)).z3) (Nat.mod_lt _ (by decide)) (mN_lt _ _) (mN_assoc _ _)) _),rfl,(fc_size _ _),(fc_size _ _),(fc_one fun _=>rfl),rfl,fun _ _ FF59 MM59=>tN ?_⟩))
   refine wp_seq (rg_c FF59 MM59 [(0,b_ 6),(0,b_ 5),(0,t_ (.agg (fc 16 (fun k9=>iW (dg (L2.step (numOf us%pN)).x2 k9))))),(0,b_ 9)] 21 [] [] (⟨rfl,(fc_size _ _),rfl,(fc_size _ _),(cP en_rMul (rmul2 (lAA L2) (lBB L2) ((L2.step (numOf us%pN)).x2) (mN_lt _ _) (mN_lt _ _) rfl) _),rfl,(fc_size _ _),(fc_size _ _),(fc_one fun _=>rfl),rfl,fun _ _ FF60 MM60=>tN ?_⟩))
   refine wp_seq (rg_dc 7 FF60 MM60 [(0,b_ 4),(0,b_ 6),(0,t_ (.agg (fc 16 (fun k9=>iW (dg 121665 k9))))),(0,b_ 4),(0,t_ (.agg (fc 16 (fun k9=>iW (dg (mN 121665 (lE L2)) k9))))),(0,t_ (.agg (fc 16 (fun k9=>iW (dg (aN (lAA L2) (mN 121665 (lE L2))) k9))))),(0,t_ (.agg (fc 16 (fun k9=>iW (dg (L2.step (numOf us%pN)).z2 k9)))))] [(0,b_ 10)] 21 [] [] (⟨rfl,(fc_size _ _),rfl,(fc_size _ _),(cP en_rSmall (rSmall_any 121665 (by decide)) _),rfl,(fc_size _ _),(cP en_rMul (rmul2 121665 (lE L2) (mN 121665 (lE L2)) (by decide) (sN_lt _ _) rfl) _),(cP en_rAdd (radd2 (lAA L2) (mN 121665 (lE L2)) (aN (lAA L2) (mN 121665 (lE L2))) (mN_lt _ _) (mN_lt _ _) rfl) _),(cP en_rMul (rmul2 (lE L2) (aN (lAA L2) (mN 121665 (lE L2))) ((L2.step (numOf us%pN)).z2) (sN_lt _ _) (aN_lt _ _) rfl) _),rfl,(fc_size _ _),(fc_size _ _),(fc_one fun _=>rfl),rfl,fun _ _ FF61 MM61=>tN ?_⟩))
   obtain⟨L3,hL3⟩:∃l,l=L2.step (numOf us%pN):=⟨_,rfl⟩
   have MMr62:MemS _ _ _ [_,_,_,_,_,_,_,_,_,(p2,.cells (fc 16 (fun k9=>iW (dg L3.x2 k9))) 224),_,_,_,_,_,_,_] _:=MM61.eqA 9 rfl (by rw [show fc 16 (fun k9=>iW (dg L3.x2 k9))=fc 16 (fun k9=>iW (dg (L2.step (numOf us%pN)).x2 k9))from fc_cong fun j _=>by rw [hL3]] <;> rfl)
   have MMr63:MemS _ _ _ [_,_,_,_,_,_,_,_,_,_,(q2,.cells (fc 16 (fun k9=>iW (dg L3.z2 k9))) 224),_,_,_,_,_,_] _:=MMr62.eqA 10 rfl (by rw [show fc 16 (fun k9=>iW (dg L3.z2 k9))=fc 16 (fun k9=>iW (dg (L2.step (numOf us%pN)).z2 k9))from fc_cong fun j _=>by rw [hL3]] <;> rfl)
   have MMr64:MemS _ _ _ [_,_,_,_,_,_,_,_,_,_,_,(p3,.cells (fc 16 (fun k9=>iW (dg L3.x3 k9))) 224),_,_,_,_,_] _:=MMr63.eqA 11 rfl (by rw [show fc 16 (fun k9=>iW (dg L3.x3 k9))=fc 16 (fun k9=>iW (dg (L2.step (numOf us%pN)).x3 k9))from fc_cong fun j _=>by rw [hL3]] <;> rfl)
   have MMr65:MemS _ _ _ [_,_,_,_,_,_,_,_,_,_,_,_,(q3,.cells (fc 16 (fun k9=>iW (dg L3.z3 k9))) 224),_,_,_,_] _:=MMr64.eqA 12 rfl (by rw [show fc 16 (fun k9=>iW (dg L3.z3 k9))=fc 16 (fun k9=>iW (dg (L2.step (numOf us%pN)).z3 k9))from fc_cong fun j _=>by rw [hL3]] <;> rfl)
   refine wp_seq (rg_c FF61 MMr65 [] 21 [104] [] (fun _ _ FF66 MM66=>tN ?_))
   by_cases hs104:(bitAt (scal ks) k)=1
   ·refine wp_cond_true ((FF66.ev 0 rfl).trans (dec_t hs104)) ?_
    refine wp_via (fun a' w'=>Fr 114 a' [(20,pT pd),(19,pT ps),(18,pT pcb),(17,pT pda),(16,pT pe),(15,pT pbb),(14,pT paa),(13,pT pb),(12,pT pa),(11,iB (bitAt (scal ks) k)),(10,.int .i64 ((((k+1):Nat):Int)-1:Int)),(9,pT q3),(8,pT p3),(7,pT q2),(6,pT p2),(5,pT bx),(4,pT br),(2,pT bk)]∧MemS (fun k=>k<w0.heap.size) w0 w' [(pd,.cells (fc 16 (fun k9=>iW (dg (lL L2) k9))) 224),(ps,.cells (fc 16 (fun k9=>iW (dg (lS L2) k9))) 224),(pcb,.cells (fc 16 (fun k9=>iW (dg (lCB L2) k9))) 224),(pda,.cells (fc 16 (fun k9=>iW (dg (lDA L2) k9))) 224),(pe,.cells (fc 16 (fun k9=>iW (dg (lE L2) k9))) 224),(pbb,.cells (fc 16 (fun k9=>iW (dg (lBB L2) k9))) 224),(paa,.cells (fc 16 (fun k9=>iW (dg (lAA L2) k9))) 224),(pb,.cells (fc 16 (fun k9=>iW (dg (lB L2) k9))) 224),(pa,.cells (fc 16 (fun k9=>iW (dg (lA L2) k9))) 224),(p2,.cells (fc 16 (fun k9=>iW (dg L3.x3 k9))) 224),(q2,.cells (fc 16 (fun k9=>iW (dg L3.z3 k9))) 224),(p3,.cells (fc 16 (fun k9=>iW (dg L3.x2 k9))) 224),(q3,.cells (fc 16 (fun k9=>iW (dg L3.z2 k9))) 224),(bx,.cells (fc 16 (fun k9=>iW (dg (numOf us%pN) k9))) 224),(br,.cells (cn .u8 (List.replicate 32 0)) 51),(bu,.cells (cn .u8 us) 51),(bk,.cells (cn .u8 (scal ks)) 51)] []) ?_ ?_
    ·skip
     refine late_standT (N:=8) [(p3,.cells (fc 16 (fun k9=>iW (dg L3.x3 k9))) 224),(q3,.cells (fc 16 (fun k9=>iW (dg L3.z3 k9))) 224)] [6,7] (by kernel_rfl) (by kernel_rfl) MM66 fun wq67 (MM68:MemS (fun k=>k<w0.heap.size) w0 wq67 [(pd,.cells (fc 16 (fun k9=>iW (dg (lL L2) k9))) 224),(ps,.cells (fc 16 (fun k9=>iW (dg (lS L2) k9))) 224),(pcb,.cells (fc 16 (fun k9=>iW (dg (lCB L2) k9))) 224),(pda,.cells (fc 16 (fun k9=>iW (dg (lDA L2) k9))) 224),(pe,.cells (fc 16 (fun k9=>iW (dg (lE L2) k9))) 224),(pbb,.cells (fc 16 (fun k9=>iW (dg (lBB L2) k9))) 224),(paa,.cells (fc 16 (fun k9=>iW (dg (lAA L2) k9))) 224),(pb,.cells (fc 16 (fun k9=>iW (dg (lB L2) k9))) 224),(pa,.cells (fc 16 (fun k9=>iW (dg (lA L2) k9))) 224),(p2,.cells (fc 16 (fun k9=>iW (dg L3.x2 k9))) 224),(q2,.cells (fc 16 (fun k9=>iW (dg L3.z2 k9))) 224),(p3,.cells (fc 16 (fun k9=>iW (dg L3.x3 k9))) 224),(q3,.cells (fc 16 (fun k9=>iW (dg L3.z3 k9))) 224),(bx,.cells (fc 16 (fun k9=>iW (dg (numOf us%pN) k9))) 224),(br,.cells (cn .u8 (List.replicate 32 0)) 51),(bu,.cells (cn .u8 us) 51),(bk,.cells (cn .u8 (scal ks)) 51)] [])=>?_
     refine lT FF66 (i:=0) (oi:=(opAt Tryz.f95 25 0)) (v:=(.agg (fc 16 (fun k9=>iW (dg L3.x3 k9))))) (d:=105) (atL_has (is:=[11,12]) rfl MM68.hasL) (by kernel_rfl) (by kernel_rfl) (by kernel_rfl) (by kernel_rfl) (by kernel_rfl) (fun _ _ _ _ _ h=>h) (by kernel_rfl) (by decide) (by kernel_rfl) (loadRi (x:=(.tmp 8)) (k:=0) (m:=16) (by kernel_rfl) rfl Tryz.underlying224 rfl (by kernel_rfl) rfl (fc_size _ _)) fun _ FF69=>?_
     refine lT FF69 (i:=1) (oi:=(opAt Tryz.f95 25 1)) (v:=(.agg (fc 16 (fun k9=>iW (dg L3.z3 k9))))) (d:=106) (atL_has (is:=[11,12]) rfl MM68.hasL) (by kernel_rfl) (by kernel_rfl) (by kernel_rfl) (by kernel_rfl) (by kernel_rfl) (fun _ _ _ _ _ h=>h) (by kernel_rfl) (by decide) (by kernel_rfl) (loadRi (x:=(.tmp 9)) (k:=1) (m:=16) (by kernel_rfl) rfl Tryz.underlying224 rfl (by kernel_rfl) rfl (fc_size _ _)) fun _ FF70=>?_
     refine late_two (i:=2) (oi:=(opAt Tryz.f95 25 2)) (j:=3) (oj:=(opAt Tryz.f95 25 3)) (by kernel_rfl) (by kernel_rfl) (by kernel_rfl) ?_ ?_
     ·skip
      refine rp_c 1 FF70 MM68 [(0,b_ 9)] 108 [] [104] (⟨rfl,(fc_size _ _),fun _ _ FF71 MM71=>?_⟩)
      refine wpl_nil (onN_n ⟨fun _=>(atL_has (is:=[11,12]) rfl MM71.hasL),?_⟩)
      refine lO (i:=3) (oi:=(opAt Tryz.f95 25 3)) (by kernel_rfl) (by kernel_rfl) ?_
      refine rp_c 1 FF71 MM71 [(0,b_ 10)] 109 [] [] (⟨rfl,(fc_size _ _),fun _ _ FF72 MM72=>?_⟩)
      refine wpl_nil (onN_n ⟨fun _=>(atL_has (is:=[11,12]) rfl MM72.hasL),?_⟩)
      refine lO (i:=4) (oi:=(opAt Tryz.f95 25 4)) (by kernel_rfl) (by kernel_rfl) ?_
      refine rp_c 1 FF72 MM72 [(0,b_ 9)] 109 [] [105] (⟨rfl,(fc_size _ _),(fc_size _ _),(fc_one fun _=>rfl),rfl,fun _ _ FF73 MM73=>?_⟩)
      refine wpl_nil (onN_n ⟨fun _=>(atL_has (is:=[11,12]) rfl MM73.hasL),?_⟩)
      refine lO (i:=5) (oi:=(opAt Tryz.f95 25 5)) (by kernel_rfl) (by kernel_rfl) ?_
      refine rp_c 1 FF73 MM73 [(0,b_ 10)] 109 [] [106] (⟨rfl,(fc_size _ _),(fc_size _ _),(fc_one fun _=>rfl),rfl,fun _ _ FF74 MM74=>?_⟩)
      refine wpl_nil (onN_n ⟨fun _=>(atL_has (is:=[11,12]) rfl MM74.hasL),?_⟩)
      refine lO (i:=6) (oi:=(opAt Tryz.f95 25 6)) (by kernel_rfl) (by kernel_rfl) ?_
      refine rp_c 1 FF74 MM74 [(0,b_ 11)] 21 [108] [] (⟨rfl,(fc_size _ _),(fc_size _ _),(fc_one fun _=>rfl),rfl,fun _ _ FF75 MM75=>?_⟩)
      refine wpl_nil (onN_n ⟨fun h=>(h (by decide)).elim,?_⟩)
      refine lO (i:=7) (oi:=(opAt Tryz.f95 25 7)) (by kernel_rfl) (by kernel_rfl) ?_
      refine rp_c 1 FF75 MM75 [(0,b_ 12)] 21 [] [] (⟨rfl,(fc_size _ _),(fc_size _ _),(fc_one fun _=>rfl),rfl,fun _ _ FF76 MM76=>?_⟩)
      refine wpl_nil (onN_n ⟨fun h=>(h (by decide)).elim,?_⟩)
      refine late_none (by kernel_rfl) (tN ?_)
      exact⟨FF76.pick [0,1,2,3,4,5,6,7,8,9,10,11,12,13,14,15,16,17],MM76⟩
     ·skip
      refine rp_c 1 FF70 MM68 [(0,b_ 10)] 109 [] [104] (⟨rfl,(fc_size _ _),fun _ _ FF77 MM77=>?_⟩)
      refine wpl_nil (onN_n ⟨fun _=>(atL_has (is:=[11,12]) rfl MM77.hasL),?_⟩)
      refine lO (i:=2) (oi:=(opAt Tryz.f95 25 2)) (by kernel_rfl) (by kernel_rfl) ?_
      refine rp_c 1 FF77 MM77 [(0,b_ 9)] 109 [] [] (⟨rfl,(fc_size _ _),fun _ _ FF78 MM78=>?_⟩)
      refine wpl_nil (onN_n ⟨fun _=>(atL_has (is:=[11,12]) rfl MM78.hasL),?_⟩)
      refine lO (i:=4) (oi:=(opAt Tryz.f95 25 4)) (by kernel_rfl) (by kernel_rfl) ?_
      refine rp_c 1 FF78 MM78 [(0,b_ 9)] 109 [] [105] (⟨rfl,(fc_size _ _),(fc_size _ _),(fc_one fun _=>rfl),rfl,fun _ _ FF79 MM79=>?_⟩)
      refine wpl_nil (onN_n ⟨fun _=>(atL_has (is:=[11,12]) rfl MM79.hasL),?_⟩)
      refine lO (i:=5) (oi:=(opAt Tryz.f95 25 5)) (by kernel_rfl) (by kernel_rfl) ?_
      refine rp_c 1 FF79 MM79 [(0,b_ 10)] 109 [] [106] (⟨rfl,(fc_size _ _),(fc_size _ _),(fc_one fun _=>rfl),rfl,fun _ _ FF80 MM80=>?_⟩)
      refine wpl_nil (onN_n ⟨fun _=>(atL_has (is:=[11,12]) rfl MM80.hasL),?_⟩)
      refine lO (i:=6) (oi:=(opAt Tryz.f95 25 6)) (by kernel_rfl) (by kernel_rfl) ?_
      refine rp_c 1 FF80 MM80 [(0,b_ 11)] 21 [108] [] (⟨rfl,(fc_size _ _),(fc_size _ _),(fc_one fun _=>rfl),rfl,fun _ _ FF81 MM81=>?_⟩)
      refine wpl_nil (onN_n ⟨fun h=>(h (by decide)).elim,?_⟩)
      refine lO (i:=7) (oi:=(opAt Tryz.f95 25 7)) (by kernel_rfl) (by kernel_rfl) ?_
      refine rp_c 1 FF81 MM81 [(0,b_ 12)] 21 [] [] (⟨rfl,(fc_size _ _),(fc_size _ _),(fc_one fun _=>rfl),rfl,fun _ _ FF82 MM82=>?_⟩)
      refine wpl_nil (onN_n ⟨fun h=>(h (by decide)).elim,?_⟩)
      refine late_none (by kernel_rfl) (tN ?_)
      exact⟨FF82.pick [0,1,2,3,4,5,6,7,8,9,10,11,12,13,14,15,16,17],MM82⟩
    ·rintro ac83 wd83 ⟨FF83,MM83⟩
     refine inb_n (tN ?_)
     refine rg_c FF83 MM83 [(1,u_ 4 (.int .i64 (((k:Nat):Int)-1:Int)))] 21 [] [] (⟨by omega,by omega,(vZ (by omega)),fun _ _ FF84 MM84=>?_⟩)
     have hd:=cnt_of (FF84.get 0 rfl)
     have MMr85:MemS _ _ _ [_,_,_,_,_,_,_,_,_,(p2,.cells (fc 16 (fun k9=>iW (dg (L3.swap (bitAt (scal ks) k)).x2 k9))) 224),_,_,_,_,_,_,_] _:=MM84.eqA 9 rfl (by rw [show fc 16 (fun k9=>iW (dg (L3.swap (bitAt (scal ks) k)).x2 k9))=fc 16 (fun k9=>iW (dg L3.x3 k9))from fc_cong fun j _=>by rw [Lad.swap,if_pos hs104]] <;> rfl)
     have MMr86:MemS _ _ _ [_,_,_,_,_,_,_,_,_,_,(q2,.cells (fc 16 (fun k9=>iW (dg (L3.swap (bitAt (scal ks) k)).z2 k9))) 224),_,_,_,_,_,_] _:=MMr85.eqA 10 rfl (by rw [show fc 16 (fun k9=>iW (dg (L3.swap (bitAt (scal ks) k)).z2 k9))=fc 16 (fun k9=>iW (dg L3.z3 k9))from fc_cong fun j _=>by rw [Lad.swap,if_pos hs104]] <;> rfl)
     have MMr87:MemS _ _ _ [_,_,_,_,_,_,_,_,_,_,_,(p3,.cells (fc 16 (fun k9=>iW (dg (L3.swap (bitAt (scal ks) k)).x3 k9))) 224),_,_,_,_,_] _:=MMr86.eqA 11 rfl (by rw [show fc 16 (fun k9=>iW (dg (L3.swap (bitAt (scal ks) k)).x3 k9))=fc 16 (fun k9=>iW (dg L3.x2 k9))from fc_cong fun j _=>by rw [Lad.swap,if_pos hs104]] <;> rfl)
     have MMr88:MemS _ _ _ [_,_,_,_,_,_,_,_,_,_,_,_,(q3,.cells (fc 16 (fun k9=>iW (dg (L3.swap (bitAt (scal ks) k)).z3 k9))) 224),_,_,_,_] _:=MMr87.eqA 12 rfl (by rw [show fc 16 (fun k9=>iW (dg (L3.swap (bitAt (scal ks) k)).z3 k9))=fc 16 (fun k9=>iW (dg L3.z2 k9))from fc_cong fun j _=>by rw [Lad.swap,if_pos hs104]] <;> rfl)
     have hst:=lad_step (scal ks) (numOf us%pN) (k:=k) (by omega) (L:=L3) (by rw [hL3,hL2,hL1])
     have MMr89:MemS _ _ _ [_,_,_,_,_,_,_,_,_,(p2,.cells (fc 16 (fun k9=>iW (dg (ladTo (scal ks) (numOf us%pN) (255-k)).x2 k9))) 224),_,_,_,_,_,_,_] _:=MMr88.eqA 9 rfl (by rw [show fc 16 (fun k9=>iW (dg (ladTo (scal ks) (numOf us%pN) (255-k)).x2 k9))=fc 16 (fun k9=>iW (dg (L3.swap (bitAt (scal ks) k)).x2 k9))from fc_cong fun j _=>by rw [hst]] <;> rfl)
     have MMr90:MemS _ _ _ [_,_,_,_,_,_,_,_,_,_,(q2,.cells (fc 16 (fun k9=>iW (dg (ladTo (scal ks) (numOf us%pN) (255-k)).z2 k9))) 224),_,_,_,_,_,_] _:=MMr89.eqA 10 rfl (by rw [show fc 16 (fun k9=>iW (dg (ladTo (scal ks) (numOf us%pN) (255-k)).z2 k9))=fc 16 (fun k9=>iW (dg (L3.swap (bitAt (scal ks) k)).z2 k9))from fc_cong fun j _=>by rw [hst]] <;> rfl)
     have MMr91:MemS _ _ _ [_,_,_,_,_,_,_,_,_,_,_,(p3,.cells (fc 16 (fun k9=>iW (dg (ladTo (scal ks) (numOf us%pN) (255-k)).x3 k9))) 224),_,_,_,_,_] _:=MMr90.eqA 11 rfl (by rw [show fc 16 (fun k9=>iW (dg (ladTo (scal ks) (numOf us%pN) (255-k)).x3 k9))=fc 16 (fun k9=>iW (dg (L3.swap (bitAt (scal ks) k)).x3 k9))from fc_cong fun j _=>by rw [hst]] <;> rfl)
     have MMr92:MemS _ _ _ [_,_,_,_,_,_,_,_,_,_,_,_,(q3,.cells (fc 16 (fun k9=>iW (dg (ladTo (scal ks) (numOf us%pN) (255-k)).z3 k9))) 224),_,_,_,_] _:=MMr91.eqA 12 rfl (by rw [show fc 16 (fun k9=>iW (dg (ladTo (scal ks) (numOf us%pN) (255-k)).z3 k9))=fc 16 (fun k9=>iW (dg (L3.swap (bitAt (scal ks) k)).z3 k9))from fc_cong fun j _=>by rw [hst]] <;> rfl)
     refine tN ⟨⟨k,by omega,FF84.pick [0,11,12,13,14,15,16,17],MMr92.sub [9,10,11,12,13,14,15,16] rfl⟩,?_⟩
     rw [hc,hd];omega
   ·refine wp_cond_false ((FF66.ev 0 rfl).trans (dec_f hs104)) ?_
    refine wp_skip ?_
    refine inb_n (tN ?_)
    refine rg_c FF66 MM66 [(1,u_ 4 (.int .i64 (((k:Nat):Int)-1:Int)))] 21 [] [] (⟨by omega,by omega,(vZ (by omega)),fun _ _ FF93 MM93=>?_⟩)
    have hd:=cnt_of (FF93.get 0 rfl)
    have MMr94:MemS _ _ _ [_,_,_,_,_,_,_,_,_,(p2,.cells (fc 16 (fun k9=>iW (dg (L3.swap (bitAt (scal ks) k)).x2 k9))) 224),_,_,_,_,_,_,_] _:=MM93.eqA 9 rfl (by rw [show fc 16 (fun k9=>iW (dg (L3.swap (bitAt (scal ks) k)).x2 k9))=fc 16 (fun k9=>iW (dg L3.x2 k9))from fc_cong fun j _=>by rw [Lad.swap,if_neg hs104]] <;> rfl)
    have MMr95:MemS _ _ _ [_,_,_,_,_,_,_,_,_,_,(q2,.cells (fc 16 (fun k9=>iW (dg (L3.swap (bitAt (scal ks) k)).z2 k9))) 224),_,_,_,_,_,_] _:=MMr94.eqA 10 rfl (by rw [show fc 16 (fun k9=>iW (dg (L3.swap (bitAt (scal ks) k)).z2 k9))=fc 16 (fun k9=>iW (dg L3.z2 k9))from fc_cong fun j _=>by rw [Lad.swap,if_neg hs104]] <;> rfl)
    have MMr96:MemS _ _ _ [_,_,_,_,_,_,_,_,_,_,_,(p3,.cells (fc 16 (fun k9=>iW (dg (L3.swap (bitAt (scal ks) k)).x3 k9))) 224),_,_,_,_,_] _:=MMr95.eqA 11 rfl (by rw [show fc 16 (fun k9=>iW (dg (L3.swap (bitAt (scal ks) k)).x3 k9))=fc 16 (fun k9=>iW (dg L3.x3 k9))from fc_cong fun j _=>by rw [Lad.swap,if_neg hs104]] <;> rfl)
    have MMr97:MemS _ _ _ [_,_,_,_,_,_,_,_,_,_,_,_,(q3,.cells (fc 16 (fun k9=>iW (dg (L3.swap (bitAt (scal ks) k)).z3 k9))) 224),_,_,_,_] _:=MMr96.eqA 12 rfl (by rw [show fc 16 (fun k9=>iW (dg (L3.swap (bitAt (scal ks) k)).z3 k9))=fc 16 (fun k9=>iW (dg L3.z3 k9))from fc_cong fun j _=>by rw [Lad.swap,if_neg hs104]] <;> rfl)
    have hst:=lad_step (scal ks) (numOf us%pN) (k:=k) (by omega) (L:=L3) (by rw [hL3,hL2,hL1])
    have MMr98:MemS _ _ _ [_,_,_,_,_,_,_,_,_,(p2,.cells (fc 16 (fun k9=>iW (dg (ladTo (scal ks) (numOf us%pN) (255-k)).x2 k9))) 224),_,_,_,_,_,_,_] _:=MMr97.eqA 9 rfl (by rw [show fc 16 (fun k9=>iW (dg (ladTo (scal ks) (numOf us%pN) (255-k)).x2 k9))=fc 16 (fun k9=>iW (dg (L3.swap (bitAt (scal ks) k)).x2 k9))from fc_cong fun j _=>by rw [hst]] <;> rfl)
    have MMr99:MemS _ _ _ [_,_,_,_,_,_,_,_,_,_,(q2,.cells (fc 16 (fun k9=>iW (dg (ladTo (scal ks) (numOf us%pN) (255-k)).z2 k9))) 224),_,_,_,_,_,_] _:=MMr98.eqA 10 rfl (by rw [show fc 16 (fun k9=>iW (dg (ladTo (scal ks) (numOf us%pN) (255-k)).z2 k9))=fc 16 (fun k9=>iW (dg (L3.swap (bitAt (scal ks) k)).z2 k9))from fc_cong fun j _=>by rw [hst]] <;> rfl)
    have MMr100:MemS _ _ _ [_,_,_,_,_,_,_,_,_,_,_,(p3,.cells (fc 16 (fun k9=>iW (dg (ladTo (scal ks) (numOf us%pN) (255-k)).x3 k9))) 224),_,_,_,_,_] _:=MMr99.eqA 11 rfl (by rw [show fc 16 (fun k9=>iW (dg (ladTo (scal ks) (numOf us%pN) (255-k)).x3 k9))=fc 16 (fun k9=>iW (dg (L3.swap (bitAt (scal ks) k)).x3 k9))from fc_cong fun j _=>by rw [hst]] <;> rfl)
    have MMr101:MemS _ _ _ [_,_,_,_,_,_,_,_,_,_,_,_,(q3,.cells (fc 16 (fun k9=>iW (dg (ladTo (scal ks) (numOf us%pN) (255-k)).z3 k9))) 224),_,_,_,_] _:=MMr100.eqA 12 rfl (by rw [show fc 16 (fun k9=>iW (dg (ladTo (scal ks) (numOf us%pN) (255-k)).z3 k9))=fc 16 (fun k9=>iW (dg (L3.swap (bitAt (scal ks) k)).z3 k9))from fc_cong fun j _=>by rw [hst]] <;> rfl)
    refine tN ⟨⟨k,by omega,FF93.pick [0,11,12,13,14,15,16,17],MMr101.sub [9,10,11,12,13,14,15,16] rfl⟩,?_⟩
    rw [hc,hd];omega
 ·skip
  refine tN (.inr ⟨(FF12.ev 0 rfl).trans (dec_f hlt),?_⟩)
  obtain rfl:k=0:=by omega
  refine tN ?_
  refine wp_seq (rg_dc 5 FF12 MM12 [(0,b_ 0),(0,b_ 1),(0,t_ (.agg (fc 16 (fun k9=>iW (dg (invTo (ladTo (scal ks) (numOf us%pN) (255-0)).z2 255) k9))))),(0,t_ (.agg (fc 16 (fun k9=>iW (dg (curveN ks us) k9))))),(0,t_ (.agg (cn .u8 (keyL (curveN ks us)))))] [(0,b_ 5)] 11 [] [] (⟨rfl,(fc_size _ _),rfl,(fc_size _ _),(cP en_rInv (rInv_any (ladTo (scal ks) (numOf us%pN) (255-0)).z2 (ladTo_ok _ _ hul _).2.1) _),(cP en_rMul (rmul2 (ladTo (scal ks) (numOf us%pN) (255-0)).x2 (invTo (ladTo (scal ks) (numOf us%pN) (255-0)).z2 255) (curveN ks us) (ladTo_ok _ _ hul _).1 (invTo_pN _) rfl) _),(cP en_rKey (rKey_any (curveN ks us)) _),rfl,((cZ _ _).trans (List.length_replicate ..)),((cZ _ _).trans (keyL_bytes (curveN ks us)).1),(cn_one _ _),rfl,fun _ _ FF102 MM102=>tN ?_⟩))
  refine wp_ret ?_
  repeat first | refine tR ?_ | refine iR ?_
  exact(retc FF102 MM102 (k:=32) (i:=5) (j:=6) Tryz.results95 rfl rfl Tryz.underlying51 rfl (by kernel_rfl) ((cZ _ _).trans (keyL_bytes (curveN ks us)).1) ⟨rfl,MM102.below⟩)
end Go.Proofs.YtdokjecjiifciaaGreatDoor
