import Derived.Test.YtdokjecjiifciaaGreatDoorZ6
import Derived.Test.YtdokjecjiifciaaGreatDoorZ3
import Derived.DeepKeys5
import Derived.Test.YtdokjecjiifciaaGreatDoorZ4
import Derived.Lib.MinMaxS
import Derived.Test.YtdokjecjiifciaaGreatDoorZ5
import Derived.Laws.Small
namespace Go.Proofs.YtdokjecjiifciaaGreatDoor
open Go.RowKit
theorem fill_len {R X:List Nat}(h:R.length≤16):(R++X.take (16-R.length)).length≤16:=by simp;omega
theorem fill_lt {R X:List Nat}(h:∀i,R.getD i 0<256)(h':∀i,X.getD i 0<256)(i:Nat):(R++X.take (16-R.length)).getD i 0<256:=app_lt h (take_lt h') i
theorem zero_blk:cn .u8 (List.replicate 17 0)++(#[iN 0]:Array Value)=blk (remT []):=by kernel_rfl
theorem zero_h (r:Nat):(#[iW 0,iW 0,iW 0]:Array Value)=w3 (hT r []):=by kernel_rfl
theorem rem_le (T:List Nat):(remT T).length≤16:=by rw [remT_len];omega
set_option maxRecDepth 100000 in
set_option maxHeartbeats 1000000 in
theorem sum_any (K:List Nat)(hK:Bytes 32 K)(Ps:List (List Nat))(hP:∀X∈Ps,∀i,X.getD i 0<256)(hn:Ps.length<9223372036854775808)(pb cap T9:Nat)(fr:Nat×Nat)(cs:Array Value)(hp:∀j,j<Ps.length→cs[j]? = some (sB (Ps.getD j [])))(w0:World)(hb:w0.heap[pb]? = some (.cells cs T9 fr)) :
  Calls Tryz.prog 144 #[.agg (cn .u8 K),.slice (some ⟨pb,0,none⟩) Ps.length cap] w0 fun e w'=>e=.returned (.agg (cn .u8 (polyN K Ps.flatten)))∧Below w0.heap.size w0 w':=by
 have MM:=MemS.start1 hb
 refine eF Tryz.func144 rfl Tryz.ntmps144 (by simp) fun ac (FF:Fr 51 ac [(0,.agg (cn .u8 K)),(1,.slice (some ⟨pb,0,none⟩) Ps.length cap)])=>?_
 refine wp_seq (rg_c FF MM [(0,s_ 0 (.cells (cn .u8 K) 52)),(0,s_ 0 (.cells (cn .u8 (List.replicate 16 0)) 207))] 5 [] [0] (⟨(by kernel_rfl),fun b1=>⟨(by kernel_rfl),fun b2=>fun _ _ FF1 MM1=>tN ?_⟩⟩))
 refine wp_seq (rg_draw FF1 MM1 [.inl (.agg (cn .u8 K)),.inl (aG #[iW (fac0 K),iW (fac1 K)]),.inl (.agg (cn .u8 K)),.inl (.agg (w3 (sOf K))),.inr (oC #[iW 0,iW 0] 274,fun b=>pT b),.inr (oC #[iW 0,iW 0,iW 0] 277,fun b=>pT b)] [4,5] [b_ 1,t_ (aG #[iW (fac0 K),iW (fac1 K)]),b_ 1,t_ (.agg (w3 (sOf K))),o_,o_] [b_ 0,b_ 1] [4,1,5,6] (fun nb=>[b1=b1,(cn .u8 K).size=32,CallP Tryz.prog 171 [.agg (cn .u8 K)] [] (aG #[iW (fac0 K),iW (fac1 K)]),b1=b1,(cn .u8 K).size=32,CallP Tryz.prog 172 [.agg (cn .u8 K)] [] (.agg (w3 (sOf K)))]) (fun nb Kt=>(nb 4)=(nb 4)∧(#[iW 0,iW 0]:Array Value).size=2∧(#[iW (fac0 K),iW (fac1 K)]:Array Value).size=2∧(#[iW (fac0 K),iW (fac1 K)]:Array Value).all (·.oneCell')=true∧(0,0).2=0∧(nb 5)=(nb 5)∧(#[iW 0,iW 0,iW 0]:Array Value).size=3∧(w3 (sOf K)).size=3∧(w3 (sOf K)).all (·.oneCell')=true∧(0,0).2=0∧Kt [(6,pT (nb 5)),(5,pT (nb 4)),(4,pT b2),(1,.slice (some ⟨pb,0,none⟩) Ps.length cap)] [((nb 4),oC #[iW (fac0 K),iW (fac1 K)] 274),((nb 5),.cells (w3 (sOf K)) 277),(b2,.cells (cn .u8 (List.replicate 16 0)) 207),(b1,.cells (cn .u8 K) 52),(pb,.cells cs T9 fr)]) (by kernel_rfl) (by kernel_rfl) (by kernel_rfl) (fun _=>by kernel_rfl) (fun _ _=>by kernel_rfl) ⟨⟨_,rfl⟩,rfl,⟨⟨_,rfl⟩,rfl,trivial⟩⟩ (fun nb=>⟨rfl,((cZ _ _).trans hK.len),(cP ent17 (factorOf_any K hK) _),rfl,((cZ _ _).trans hK.len),(cP ent18 (lastHalf_any K hK) _),trivial⟩) (fun nb=>⟨rfl,rfl,rfl,(by kernel_rfl),rfl,rfl,rfl,rfl,(by kernel_rfl),rfl,fun _ _ FF2 MM2=>tN ?_⟩))
 generalize nb 4=br at *
 generalize nb 5=bl at *
 refine wp_seq (rg_c FF2 MM2 [] 8 [] [] (fun bh=>fun _ _ FF3 MM3=>tN ?_))
 refine wp_seq (rg_c FF3 MM3 [(0,s_ 0 (.cells ((cn .u8 (List.replicate 17 0))++(#[iN 0]:Array Value)) 281))] 9 [] [] (⟨(by kernel_rfl),fun bb=>fun _ wd4 FF4 MM4=>tN ?_⟩))
 have hn0:∀i,([]:List Nat).getD i 0<256:=fun i=>by simp
 have MMs:MemS (fun k=>k<w0.heap.size∧k≠pb) w0 wd4 [(bb,.cells (blk (remT [])) 281),(bh,.cells (w3 (hT (rOf K) [])) 277),(br,oC #[iW (fac0 K),iW (fac1 K)] 274),(bl,.cells (w3 (sOf K)) 277),(b2,.cells (cn .u8 (List.replicate 16 0)) 207),(b1,.cells (cn .u8 K) 52),(pb,.cells cs T9 fr)] []:=by rw [←zero_blk,←zero_h (rOf K)];exact MM4
 refine wp_seq ?_
 refine wp_seq (rg_c FF4 MMs [] 18 [] [1] (fun _ _ FF5 MM5=>tN ?_))
 refine wp_for (fun a' w'=>∃j:Nat,j≤Ps.length∧Fr 51 a' [(17,iN j),(16,iN Ps.length),(15,.slice (some ⟨pb,0,none⟩) Ps.length cap),(8,pT bb),(7,pT bh),(6,pT bl),(5,pT br),(4,pT b2)]∧MemS (fun k=>k<w0.heap.size∧k≠pb) w0 w' [(bb,.cells (blk (remT ((Ps.take j).flatten))) 281),(bh,.cells (w3 (hT (rOf K) ((Ps.take j).flatten))) 277),(br,oC #[iW (fac0 K),iW (fac1 K)] 274),(bl,.cells (w3 (sOf K)) 277),(b2,.cells (cn .u8 (List.replicate 16 0)) 207),(b1,.cells (cn .u8 K) 52),(pb,.cells cs T9 fr)] []) (fun a' _=>(Ps.length-cnt 17 a').toNat) ⟨0,by omega,FF5.pick [0,1,2,3,4,5,6,7],MM5⟩ ?_
 rintro ac6 wd6 ⟨j,hj,FF6,MM6⟩
 have hc:=cnt_of (FF6.get 0 rfl)
 refine rg_c FF6 MM6 [] 19 [] [] (fun _ _ FF7 MM7=>?_)
 by_cases hlt:j<Ps.length
 ·skip
  refine tN (.inl ⟨(FF7.ev 0 rfl).trans (dec_t hlt),?_⟩)
  have hPj:∀i,(Ps.getD j []).getD i 0<256:=hP _ (by rw [List.getD_eq_getElem?_getD,List.getElem?_eq_getElem hlt];exact List.getElem_mem hlt)
  refine wp_seq (rg_c FF7 MM7 [(0,w_ 1),(0,l_ 6 (sB (Ps.getD j [])))] 18 [] [] (⟨by omega,rfl,(hp j hlt),fun _ _ FF8 MM8=>tN ?_⟩))
  refine wp_for2w (fun a' w'=>∃C:List Nat,∃X:List Nat,C++X=(Ps.take j).flatten++Ps.getD j []∧(∀i,C.getD i 0<256)∧(∀i,X.getD i 0<256)∧Fr 51 a' [(10,sB X),(17,iN j),(16,iN Ps.length),(15,.slice (some ⟨pb,0,none⟩) Ps.length cap),(8,pT bb),(7,pT bh),(6,pT bl),(5,pT br),(4,pT b2)]∧MemS (fun k=>k<w0.heap.size∧k≠pb) w0 w' [(bb,.cells (blk (remT C)) 281),(bh,.cells (w3 (hT (rOf K) C)) 277),(br,oC #[iW (fac0 K),iW (fac1 K)] 274),(bl,.cells (w3 (sOf K)) 277),(b2,.cells (cn .u8 (List.replicate 16 0)) 207),(b1,.cells (cn .u8 K) 52),(pb,.cells cs T9 fr)] []) (fun a' _=>strLen 10 a') ⟨(Ps.take j).flatten,Ps.getD j [],rfl,flat_lt (fun Y hY=>hP Y (List.mem_of_mem_take hY)),hPj,FF8.pick [0,1,2,3,4,5,6,7,8],MM8⟩ ?_
  rintro ac9 wd9 ⟨C,X,hC,hCl,hXl,FF9,MM9⟩
  have hm1:=strLen_of (FF9.get 0 rfl)
  refine rg_c FF9 MM9 [(1,t_ (iN X.length))] 18 [23] [] (⟨(vI (bs_size _)),fun _ _ FF10 MM10=>?_⟩)
  by_cases hX0:X.length>0
  ·skip
   refine tN (.inl ⟨(FF10.ev 0 rfl).trans (dec_t hX0),?_⟩)
   refine wp_seq (rg_c FF10 MM10 [(1,c_ (sB (X.drop (16-(remT C).length))) [(0,.cells (blk ((remT C)++X.take (16-(remT C).length))) 281)])] 18 [] [] (⟨⟨ent19,fun w H=>fill_any _ _ _ 0 (rem_le _) hXl _ rfl w H⟩,fun _ _ FF11 MM11=>tN ?_⟩))
   refine wp_seq (rg_c FF11 MM11 [(1,l_ 0 (iN (((remT C)++X.take (16-(remT C).length)).length)))] 18 [28] [] (⟨rfl,((cat_r 0 ((cZ _ _).trans (padR_len (fill_len (rem_le _)))) rfl).trans rfl),fun _ wd12 FF12 MM12=>tN ?_⟩))
   by_cases hs28:(((remT C)++X.take (16-(remT C).length)).length)=16
   ·refine wp_cond_true ((FF12.ev 0 rfl).trans (dec_t hs28)) ?_
    refine wp_seq (rg_dc 6 FF12 MM12 [(0,b_ 1),(0,b_ 0),(0,t_ (.agg (w3 (numR ((remT C)++X.take (16-(remT C).length)))))),(0,t_ (.agg (w3 ((hT (rOf K) C)+(numR ((remT C)++X.take (16-(remT C).length))))))),(0,b_ 2),(0,t_ (.agg (w3 (py_foldN (((hT (rOf K) C)+(numR ((remT C)++X.take (16-(remT C).length))))*rOf K)))))] [(0,b_ 1)] 18 [] [] (⟨rfl,rfl,rfl,(blk_size (fill_len (rem_le _))),(cP ent22 (number_any _ (fill_len (rem_le _)) (fill_lt (remT_lt hCl) hXl)) _),(cP ent21 (plus_any _ _) _),rfl,rfl,(cP ent20 (times_any _ _ _ (by have:=hK_lt (rOf_lt K) hCl (C.length/16);have:=numR_lt (fill_len (rem_le C)) (fill_lt (remT_lt hCl) hXl);unfold hT;omega) (fac0_lt K) (fac1_lt K)) _),rfl,rfl,rfl,(by kernel_rfl),rfl,fun _ _ FF13 MM13=>tN ?_⟩))
    refine rg_c FF13 MM13 [(0,t_ (.agg ((cn .u8 (List.replicate 17 0))++(#[iN 0]:Array Value)))),(0,b_ 0)] 18 [] [] (⟨(by kernel_rfl),rfl,(blk_size (fill_len (rem_le _))),(by simp [cZ]),(one_app (cn_one _ _) (by kernel_rfl)),rfl,fun _ wd14 FF14 MM14=>?_⟩)
    refine inb_n ?_
    have hst:=step_full (rOf K) C (X.take (16-(remT C).length)) hs28
    have hl2:∀i,(C++X.take (16-(remT C).length)).getD i 0<256:=app_lt hCl (take_lt hXl)
    have MMx:MemS (fun k=>k<w0.heap.size∧k≠pb) w0 wd14 [(bb,.cells (blk (remT (C++X.take (16-(remT C).length)))) 281),(bh,.cells (w3 (hT (rOf K) (C++X.take (16-(remT C).length)))) 277),(br,oC #[iW (fac0 K),iW (fac1 K)] 274),(bl,.cells (w3 (sOf K)) 277),(b2,.cells (cn .u8 (List.replicate 16 0)) 207),(b1,.cells (cn .u8 K) 52),(pb,.cells cs T9 fr)] []:=by rw [hst.1,hst.2];exact MM14
    have hm2:=strLen_of (FF14.get 0 rfl)
    refine tN ⟨⟨C++X.take (16-(remT C).length),X.drop (16-(remT C).length),by rw [List.append_assoc,List.take_append_drop,hC],hl2,drop_lt hXl,FF14.pick [0,1,2,3,4,5,6,7,8],MMx⟩,?_⟩
    rw [hm1,hm2,bs_size,bs_size,List.length_drop];have:=remT_len C;omega
   ·refine wp_cond_false ((FF12.ev 0 rfl).trans (dec_f hs28)) ?_
    refine wp_skip ?_
    refine inb_n ?_
    have hst:=step_in (rOf K) C (X.take (16-(remT C).length)) (by have:=fill_len (X:=X) (rem_le C);omega)
    have hl2:∀i,(C++X.take (16-(remT C).length)).getD i 0<256:=app_lt hCl (take_lt hXl)
    have MMx:MemS (fun k=>k<w0.heap.size∧k≠pb) w0 wd12 [(bb,.cells (blk (remT (C++X.take (16-(remT C).length)))) 281),(bh,.cells (w3 (hT (rOf K) (C++X.take (16-(remT C).length)))) 277),(br,oC #[iW (fac0 K),iW (fac1 K)] 274),(bl,.cells (w3 (sOf K)) 277),(b2,.cells (cn .u8 (List.replicate 16 0)) 207),(b1,.cells (cn .u8 K) 52),(pb,.cells cs T9 fr)] []:=by rw [hst.1,hst.2];exact MM12
    have hm2:=strLen_of (FF12.get 1 rfl)
    refine tN ⟨⟨C++X.take (16-(remT C).length),X.drop (16-(remT C).length),by rw [List.append_assoc,List.take_append_drop,hC],hl2,drop_lt hXl,FF12.pick [1,2,3,4,5,6,7,8,9],MMx⟩,?_⟩
    rw [hm1,hm2,bs_size,bs_size,List.length_drop];have:=remT_len C;omega
  ·skip
   refine tN (.inr ⟨(FF10.ev 0 rfl).trans (dec_f hX0),?_⟩)
   obtain rfl:X=[]:=List.eq_nil_of_length_eq_zero (by omega)
   rw [List.append_nil]at hC
   rw [←flat_take Ps j hlt]at hC
   subst hC
   refine inb_n (tN ?_)
   refine rg_c FF10 MM10 [] 18 [] [] (⟨by omega,fun _ _ FF15 MM15=>?_⟩)
   have hc2:=cnt_of (FF15.get 0 rfl)
   refine tN ⟨⟨j+1,by omega,FF15.pick [0,2,3,4,5,6,7,8],MM15⟩,?_⟩
   rw [hc,hc2];omega
 ·skip
  refine tN (.inr ⟨(FF7.ev 0 rfl).trans (dec_f hlt),?_⟩)
  obtain rfl:j=Ps.length:=by omega
  rw [List.take_length]at MM7
  have hTl:∀i,Ps.flatten.getD i 0<256:=flat_lt hP
  refine tN ?_
  refine wp_seq ?_
  refine wp_seq (rg_c FF7 MM7 [(1,l_ 0 (iN ((remT Ps.flatten).length)))] 18 [39] [] (⟨rfl,((cat_r 0 ((cZ _ _).trans (padR_len (rem_le _))) rfl).trans rfl),fun _ wd16 FF16 MM16=>tN ?_⟩))
  by_cases hs39:((remT Ps.flatten).length)>0
  ·refine wp_cond_true ((FF16.ev 0 rfl).trans (dec_t hs39)) ?_
   refine rg_dc 6 FF16 MM16 [(0,b_ 1),(0,b_ 0),(0,t_ (.agg (w3 (numR (remT Ps.flatten))))),(0,t_ (.agg (w3 ((hT (rOf K) Ps.flatten)+(numR (remT Ps.flatten)))))),(0,b_ 2),(0,t_ (.agg (w3 (py_foldN (((hT (rOf K) Ps.flatten)+(numR (remT Ps.flatten)))*rOf K)))))] [(0,b_ 1)] 18 [] [] (⟨rfl,rfl,rfl,(blk_size (rem_le _)),(cP ent22 (number_any _ (rem_le _) (remT_lt hTl)) _),(cP ent21 (plus_any _ _) _),rfl,rfl,(cP ent20 (times_any _ _ _ (by have:=hK_lt (rOf_lt K) hTl (Ps.flatten.length/16);have:=numR_lt (rem_le _) (remT_lt hTl);unfold hT;omega) (fac0_lt K) (fac1_lt K)) _),rfl,rfl,rfl,(by kernel_rfl),rfl,fun _ wd17 FF17 MM17=>?_⟩)
   refine tN ?_
   have MMz:MemS (fun k=>k<w0.heap.size∧k≠pb) w0 wd17 [(bb,.cells (blk (remT Ps.flatten)) 281),(bh,.cells (w3 (hAll (rOf K) Ps.flatten)) 277),(br,oC #[iW (fac0 K),iW (fac1 K)] 274),(bl,.cells (w3 (sOf K)) 277),(b2,.cells (cn .u8 (List.replicate 16 0)) 207),(b1,.cells (cn .u8 K) 52),(pb,.cells cs T9 fr)] []:=by rw [hAll,if_pos hs39];exact MM17
   refine wp_seq (rg_dc 5 FF17 MMz [(0,b_ 1),(0,t_ (.agg (w3 ((hAll (rOf K) Ps.flatten)%1361129467683753853853498429727072845819)))),(0,b_ 3),(0,t_ (.agg (w3 (((hAll (rOf K) Ps.flatten)%1361129467683753853853498429727072845819)+(sOf K))))),(0,t_ (.agg (cn .u8 (tagTo (((hAll (rOf K) Ps.flatten)%1361129467683753853853498429727072845819)+(sOf K)) 8))))] [(0,b_ 4)] 18 [] [] (⟨rfl,rfl,(cP ent24 (settle_any _ (hAll_lt hTl)) _),rfl,rfl,(cP ent21 (plus_any _ _) _),(cP ent23 (tag_any _) _),rfl,((cZ _ _).trans (List.length_replicate ..)),((cZ _ _).trans (tagTo_len _ _)),(cn_one _ _),rfl,fun _ _ FF18 MM18=>tN ?_⟩))
   refine wp_ret ?_
   repeat first | refine tR ?_ | refine iR ?_
   exact(retc FF18 MM18 (k:=16) (i:=4) (j:=7) Tryz.results144 rfl rfl Tryz.underlying207 rfl (by kernel_rfl) ((cZ _ _).trans (tagTo_len _ _)) ⟨rfl,MM18.below1 6 rfl hb⟩)
  ·refine wp_cond_false ((FF16.ev 0 rfl).trans (dec_f hs39)) ?_
   refine wp_skip ?_
   refine tN ?_
   have MMz:MemS (fun k=>k<w0.heap.size∧k≠pb) w0 wd16 [(bb,.cells (blk (remT Ps.flatten)) 281),(bh,.cells (w3 (hAll (rOf K) Ps.flatten)) 277),(br,oC #[iW (fac0 K),iW (fac1 K)] 274),(bl,.cells (w3 (sOf K)) 277),(b2,.cells (cn .u8 (List.replicate 16 0)) 207),(b1,.cells (cn .u8 K) 52),(pb,.cells cs T9 fr)] []:=by rw [hAll,if_neg hs39];exact MM16
   refine wp_seq (rg_dc 5 FF16 MMz [(0,b_ 1),(0,t_ (.agg (w3 ((hAll (rOf K) Ps.flatten)%1361129467683753853853498429727072845819)))),(0,b_ 3),(0,t_ (.agg (w3 (((hAll (rOf K) Ps.flatten)%1361129467683753853853498429727072845819)+(sOf K))))),(0,t_ (.agg (cn .u8 (tagTo (((hAll (rOf K) Ps.flatten)%1361129467683753853853498429727072845819)+(sOf K)) 8))))] [(0,b_ 4)] 18 [] [] (⟨rfl,rfl,(cP ent24 (settle_any _ (hAll_lt hTl)) _),rfl,rfl,(cP ent21 (plus_any _ _) _),(cP ent23 (tag_any _) _),rfl,((cZ _ _).trans (List.length_replicate ..)),((cZ _ _).trans (tagTo_len _ _)),(cn_one _ _),rfl,fun _ _ FF19 MM19=>tN ?_⟩))
   refine wp_ret ?_
   repeat first | refine tR ?_ | refine iR ?_
   exact(retc FF19 MM19 (k:=16) (i:=4) (j:=7) Tryz.results144 rfl rfl Tryz.underlying207 rfl (by kernel_rfl) ((cZ _ _).trans (tagTo_len _ _)) ⟨rfl,MM19.below1 6 rfl hb⟩)
def rN (m d x:Nat):Nat:=(x*m%4294967296) ||| (x/d)
theorem rN_lt (m d x:Nat)(hx:x<4294967296):rN m d x<4294967296:=
 Nat.or_lt_two_pow (n:=32) (Nat.mod_lt _ (by decide)) (Nat.lt_of_le_of_lt (Nat.div_le_self _ _) hx)
theorem xor_lt {a b:Nat}(ha:a<4294967296)(hb:b<4294967296):a ^^^ b<4294967296:=Nat.xor_lt_two_pow (n:=32) ha hb
structure Four where
 a:Nat
 b:Nat
 c:Nat
 d:Nat
def q4 (a b c d:Nat):Four:=
 let a1:=(a+b)%4294967296
 let d1:=rN 65536 65536 (d ^^^ a1)
 let c1:=(c+d1)%4294967296
 let b1:=rN 4096 1048576 (b ^^^ c1)
 let a2:=(a1+b1)%4294967296
 let d2:=rN 256 16777216 (d1 ^^^ a2)
 let c2:=(c1+d2)%4294967296
 let b2:=rN 128 33554432 (b1 ^^^ c2)
 ⟨a2,b2,c2,d2⟩
theorem q4_lt {a b c d:Nat}(hb:b<4294967296)(hd:d<4294967296) :
  (q4 a b c d).a<4294967296∧(q4 a b c d).b<4294967296∧(q4 a b c d).c<4294967296∧(q4 a b c d).d<4294967296:=by
 have m:∀x,x%4294967296<4294967296:=fun x=>Nat.mod_lt _ (by decide)
 exact⟨m _,rN_lt _ _ _ (xor_lt (rN_lt _ _ _ (xor_lt hb (m _))) (m _)),m _,rN_lt _ _ _ (xor_lt (rN_lt _ _ _ (xor_lt hd (m _))) (m _))⟩
structure Words (l:List Nat):Prop where
 len:l.length=16
 lt:∀i,l.getD i 0<4294967296
theorem Words.set {l:List Nat}(h:Words l)(i:Nat){x:Nat}(hx:x<4294967296):Words (l.set i x):=
 ⟨by simp [h.len],fun j=>by rw [getD_set];split;exact hx;exact h.lt j⟩
def qAt (l:List Nat)(a b c d:Nat):List Nat:=
 let q:=q4 (l.getD a 0) (l.getD b 0) (l.getD c 0) (l.getD d 0)
 (((l.set a q.a).set b q.b).set c q.c).set d q.d
theorem Words.qAt {l:List Nat}(h:Words l)(a b c d:Nat):Words (qAt l a b c d):=by
 obtain⟨h1,h2,h3,h4⟩:=q4_lt (a:=l.getD a 0) (c:=l.getD c 0) (h.lt b) (h.lt d)
 exact(((h.set a h1).set b h2).set c h3).set d h4
def dbl (l:List Nat):List Nat:=
 qAt (qAt (qAt (qAt (qAt (qAt (qAt (qAt l 0 4 8 12) 1 5 9 13) 2 6 10 14) 3 7 11 15) 0 5 10 15) 1 6 11 12) 2 7 8 13) 3 4 9 14
theorem Words.dbl {l:List Nat}(h:Words l):Words (dbl l):=
 (((((((h.qAt 0 4 8 12).qAt 1 5 9 13).qAt 2 6 10 14).qAt 3 7 11 15).qAt 0 5 10 15).qAt 1 6 11 12).qAt 2 7 8 13).qAt 3 4 9 14
def dblN (l:List Nat):Nat→List Nat
 | 0=>l
 | n+1=>dbl (dblN l n)
theorem Words.dblN {l:List Nat}(h:Words l):∀n,Words (dblN l n)
 | 0=>h
 | n+1=>(Words.dblN h n).dbl
def cwd (a b c d:Nat):Nat:=a+256*b+65536*c+16777216*d
theorem cwd_lt {a b c d:Nat}(ha:a<256)(hb:b<256)(hc:c<256)(hd:d<256):cwd a b c d<4294967296:=by unfold cwd;omega
def cwdAt (l:List Nat)(i:Nat):Nat:=cwd (l.getD (4*i) 0) (l.getD (4*i+1) 0) (l.getD (4*i+2) 0) (l.getD (4*i+3) 0)
def laid (ks:List Nat)(c:Nat)(ns:List Nat):List Nat:=
 [1634760805,857760878,2036477234,1797285236,cwdAt ks 0,cwdAt ks 1,cwdAt ks 2,cwdAt ks 3,cwdAt ks 4,cwdAt ks 5,cwdAt ks 6,cwdAt ks 7,c,cwdAt ns 0,cwdAt ns 1,cwdAt ns 2]
theorem Bytes.cwd {n:Nat}{l:List Nat}(h:Bytes n l)(i:Nat):cwdAt l i<4294967296:=cwd_lt (h.lt _) (h.lt _) (h.lt _) (h.lt _)
theorem laid_words {ks ns:List Nat}{c:Nat}(hk:Bytes 32 ks)(hc:c<4294967296)(hn:Bytes 12 ns):Words (laid ks c ns):=by
 refine⟨rfl,fun i=>?_⟩
 match i with
 | 0=>show 1634760805<_;decide
 | 1=>show 857760878<_;decide
 | 2=>show 2036477234<_;decide
 | 3=>show 1797285236<_;decide
 | 4=>exact hk.cwd 0
 | 5=>exact hk.cwd 1
 | 6=>exact hk.cwd 2
 | 7=>exact hk.cwd 3
 | 8=>exact hk.cwd 4
 | 9=>exact hk.cwd 5
 | 10=>exact hk.cwd 6
 | 11=>exact hk.cwd 7
 | 12=>exact hc
 | 13=>exact hn.cwd 0
 | 14=>exact hn.cwd 1
 | 15=>exact hn.cwd 2
 | _+16=>show 0<_;decide
def setTo (p:Nat)(s:List Nat)(l:List Nat):Nat→List Nat
 | 0=>l
 | n+1=>(setTo p s l n).set (p+n) (cwdAt s n)
theorem setTo_len (p:Nat)(s l:List Nat):∀n,(setTo p s l n).length=l.length
 | 0=>rfl
 | n+1=>by simp [setTo,setTo_len p s l n]
def lay0 (c:Nat):List Nat:=[1634760805,857760878,2036477234,1797285236,0,0,0,0,0,0,0,0,c,0,0,0]
def sumW (s t:List Nat)(i:Nat):Nat:=(s.getD i 0+t.getD i 0)%4294967296
def byteW (s t:List Nat)(j:Nat):Nat:=sumW s t (j/4)/256^(j%4)%256
def blockW (l:List Nat):List Nat:=(List.range 64).map (byteW (dblN l 10) l)
def blockN (ks:List Nat)(c:Nat)(ns:List Nat):List Nat:=blockW (laid ks c ns)
theorem blockW_len (l:List Nat):(blockW l).length=64:=by simp [blockW]
theorem blockW_get (l:List Nat)(j:Nat)(hj:j<64):(blockW l).getD j 0=byteW (dblN l 10) l j:=by
 simp [blockW,hj]
theorem blockW_lt (l:List Nat)(j:Nat):(blockW l).getD j 0<256:=by
 rcases Nat.lt_or_ge j 64 with hj | hj
 ·rw [blockW_get l j hj];exact Nat.mod_lt _ (by decide)
 ·rw [List.getD_eq_getElem?_getD,List.getElem?_eq_none (by rw [blockW_len];exact hj)];decide
def bset (s l:List Nat):Nat→List Nat
 | 0=>List.replicate 64 0
 | n+1=>((((bset s l n).set (4*n) (sumW s l n%256)).set (4*n+1) (sumW s l n/256%256)).set (4*n+2) (sumW s l n/65536%256)).set (4*n+3) (sumW s l n/16777216%256)
theorem bset_len (s l:List Nat):∀n,(bset s l n).length=64
 | 0=>List.length_replicate
 | n+1=>by simp [bset,bset_len s l n]
theorem bset_get (s l:List Nat):∀n,n≤16→∀j,j<64→(bset s l n).getD j 0=if j<4*n then byteW s l j else 0
 | 0,_,j,h=>by rw [if_neg (by omega)];simp only [bset,List.getD_eq_getElem?_getD,List.getElem?_replicate,if_pos h,Option.getD_some]
 | n+1,hn,j,h=>by
  have ih:=bset_get s l n (by omega) j h
  simp only [bset,getD_set,List.length_set,bset_len]
  unfold byteW
  by_cases e3:4*n+3=j
  ·rw [if_pos ⟨e3,by omega⟩,if_pos (by omega),show j/4=n by omega,show j%4=3 by omega]
  rw [if_neg (fun x=>e3 x.1)]
  by_cases e2:4*n+2=j
  ·rw [if_pos ⟨e2,by omega⟩,if_pos (by omega),show j/4=n by omega,show j%4=2 by omega]
  rw [if_neg (fun x=>e2 x.1)]
  by_cases e1:4*n+1=j
  ·rw [if_pos ⟨e1,by omega⟩,if_pos (by omega),show j/4=n by omega,show j%4=1 by omega]
  rw [if_neg (fun x=>e1 x.1)]
  by_cases e0:4*n=j
  ·rw [if_pos ⟨e0,by omega⟩,if_pos (by omega),show j/4=n by omega,show j%4=0 by omega,Nat.pow_zero,Nat.div_one]
  rw [if_neg (fun x=>e0 x.1),ih]
  by_cases hj:j<4*n
  ·rw [if_pos hj,if_pos (by omega)];rfl
  ·rw [if_neg hj,if_neg (by omega)]
theorem bset_all (l:List Nat):bset (dblN l 10) l 16=blockW l:=by
 refine ext_getD (by rw [bset_len,blockW_len]) fun i h=>?_
 rw [bset_len]at h
 rw [bset_get _ _ _ (Nat.le_refl _) i h,if_pos (by omega),blockW_get l i h]
def xorTo (X:List Nat)(o:Nat)(B:List Nat):Nat→List Nat
 | 0=>X
 | n+1=>(xorTo X o B n).set (o+n) (X.getD (o+n) 0 ^^^ B.getD n 0)
theorem xorTo_len (X:List Nat)(o:Nat)(B:List Nat):∀n,(xorTo X o B n).length=X.length
 | 0=>rfl
 | n+1=>by simp [xorTo,xorTo_len X o B n]
theorem xorTo_get (X:List Nat)(o:Nat)(B:List Nat)(j:Nat):∀n,o+n≤X.length→(xorTo X o B n).getD j 0=if o≤j∧j<o+n then X.getD j 0 ^^^ B.getD (j-o) 0 else X.getD j 0
 | 0,_=>by rw [if_neg (by omega)];rfl
 | n+1,h=>by
  simp only [xorTo,getD_set,xorTo_len,xorTo_get X o B j n (by omega)]
  by_cases e:o+n=j
  ·rw [if_pos ⟨e,by omega⟩,if_pos (by omega),e,show j-o=n by omega]
  ·rw [if_neg (fun x=>e x.1)]
   by_cases h2:o≤j∧j<o+n
   ·rw [if_pos h2,if_pos (by omega)]
   ·rw [if_neg h2,if_neg (by omega)]
def maskN (ks:List Nat)(c:Nat)(ns:List Nat)(t:List Nat):List Nat:=
 (List.range t.length).map fun i=>t.getD i 0 ^^^ (blockN ks ((c+i/64)%4294967296) ns).getD (i%64) 0
theorem maskN_len (ks:List Nat)(c:Nat)(ns t:List Nat):(maskN ks c ns t).length=t.length:=by simp [maskN]
theorem maskN_get (ks:List Nat)(c:Nat)(ns t:List Nat)(i:Nat)(h:i<t.length):(maskN ks c ns t).getD i 0=t.getD i 0 ^^^ (blockN ks ((c+i/64)%4294967296) ns).getD (i%64) 0:=by
 simp [maskN,h]
theorem maskN_twice (ks:List Nat)(c:Nat)(ns t:List Nat):maskN ks c ns (maskN ks c ns t)=t:=by
 refine ext_getD (by simp [maskN_len]) fun i h=>?_
 rw [maskN_len,maskN_len]at h
 rw [maskN_get _ _ _ _ _ (by rw [maskN_len];exact h),maskN_get _ _ _ _ _ h,Nat.xor_assoc,Nat.xor_self,Nat.xor_zero]
def mTo (ks:List Nat)(c:Nat)(ns:List Nat)(X:List Nat)(N:Nat):Nat→List Nat
 | 0=>X
 | k+1=>xorTo (mTo ks c ns X N k) (min (64*k) N) (blockN ks ((c+k)%4294967296) ns) (min 64 (N-min (64*k) N))
theorem mTo_len (ks:List Nat)(c:Nat)(ns X:List Nat)(N:Nat):∀k,(mTo ks c ns X N k).length=X.length
 | 0=>rfl
 | k+1=>by rw [mTo,xorTo_len,mTo_len ks c ns X N k]
theorem mTo_get (ks:List Nat)(c:Nat)(ns X:List Nat)(N:Nat)(hN:N≤X.length)(j:Nat):∀k,(mTo ks c ns X N k).getD j 0=if j<min (64*k) N then X.getD j 0 ^^^ (blockN ks ((c+j/64)%4294967296) ns).getD (j%64) 0 else X.getD j 0
 | 0=>by rw [if_neg (by omega)];rfl
 | k+1=>by
  have ih:=mTo_get ks c ns X N hN j k
  rw [mTo,xorTo_get _ _ _ _ _ (by rw [mTo_len];omega),ih]
  clear ih
  rcases Nat.le_total (64*k) N with hk | hk
  ·rw [Nat.min_eq_left hk]
   obtain⟨r,hr⟩:∃r,N-64*k=r:=⟨_,rfl⟩
   rw [hr]
   by_cases h:64*k≤j∧j<64*k+min 64 r
   ·rw [if_pos h,if_neg (show ¬j<64*k by omega),if_pos (show j<min (64*(k+1)) N by omega),show j/64=k by omega,show j-64*k=j%64 by omega]
   ·rw [if_neg h]
    by_cases h2:j<64*k
    ·rw [if_pos h2,if_pos (by omega)]
    ·rw [if_neg h2,if_neg (by omega)]
  ·rw [Nat.min_eq_right hk,Nat.sub_self,Nat.min_zero,if_neg (by omega),Nat.min_eq_right (by omega)]
theorem mTo_lt (ks:List Nat)(c:Nat)(ns X:List Nat)(N:Nat)(hN:N≤X.length)(hX:∀i,X.getD i 0<256)(k j:Nat):(mTo ks c ns X N k).getD j 0<256:=by
 rw [mTo_get ks c ns X N hN j k]
 split
 ·exact xor_lt8 (hX j) (blockW_lt _ _)
 ·exact hX j
theorem mTo_all (ks:List Nat)(c:Nat)(ns X Z:List Nat)(k:Nat)(hk:X.length≤64*k):(mTo ks c ns (X++Z) X.length k).take X.length=maskN ks c ns X:=by
 refine ext_getD (by simp [mTo_len,maskN_len]) fun i h=>?_
 simp only [List.length_take,mTo_len,List.length_append]at h
 have e:((mTo ks c ns (X++Z) X.length k).take X.length).getD i 0=(mTo ks c ns (X++Z) X.length k).getD i 0:=by
  simp [show i<X.length by omega]
 rw [e,mTo_get _ _ _ _ _ (by simp) i k,if_pos (by omega),maskN_get _ _ _ _ _ (by omega),getD_app_l _ _ _ (by omega)]
theorem maskN_lt (ks:List Nat)(c:Nat)(ns t:List Nat)(ht:∀i,t.getD i 0<256)(i:Nat):(maskN ks c ns t).getD i 0<256:=by
 rcases Nat.lt_or_ge i t.length with h | h
 ·rw [maskN_get _ _ _ _ _ h];exact xor_lt8 (ht i) (blockW_lt _ _)
 ·rw [List.getD_eq_getElem?_getD,List.getElem?_eq_none (by rw [maskN_len];exact h)];decide
def outTo (s l:List Nat):Nat→List Nat
 | 0=>[]
 | n+1=>outTo s l n++[sumW s l n%256,sumW s l n/256%256,sumW s l n/65536%256,sumW s l n/16777216%256]
theorem outTo_eq (s l:List Nat):∀n,outTo s l n=(List.range (4*n)).map (byteW s l)
 | 0=>rfl
 | n+1=>by
  rw [outTo,outTo_eq s l n,show 4*(n+1)=4*n+1+1+1+1 by omega,List.range_succ,List.range_succ,List.range_succ,List.range_succ]
  simp only [List.map_append,List.map_cons,List.map_nil,List.append_assoc,List.cons_append,List.nil_append]
  congr 1
  unfold byteW
  rw [show 4*n/4=n by omega,show(4*n+1)/4=n by omega,show(4*n+1+1)/4=n by omega,show(4*n+1+1+1)/4=n by omega,
   show 4*n%4=0 by omega,show(4*n+1)%4=1 by omega,show(4*n+1+1)%4=2 by omega,show(4*n+1+1+1)%4=3 by omega,Nat.pow_zero,Nat.div_one]
theorem outTo_all (l:List Nat):outTo (dblN l 10) l 16=blockW l:=outTo_eq _ _ 16
def colTo (L:List Nat):Nat→List Nat
 | 0=>L
 | i+1=>qAt (colTo L i) i (4+i) (8+i) (12+i)
def diagTo (L:List Nat):Nat→List Nat
 | 0=>L
 | i+1=>qAt (diagTo L i) i (4+(i+1)%4) (8+(i+2)%4) (12+(i+3)%4)
theorem Words.colTo {L:List Nat}(h:Words L):∀i,Words (colTo L i)
 | 0=>h
 | i+1=>(Words.colTo h i).qAt _ _ _ _
theorem Words.diagTo {L:List Nat}(h:Words L):∀i,Words (diagTo L i)
 | 0=>h
 | i+1=>(Words.diagTo h i).qAt _ _ _ _
def mkTo (ks:List Nat)(c:Nat)(ns X:List Nat)(n:Nat):List Nat:=(List.range n).map fun i=>X.getD i 0 ^^^ (blockN ks ((c+i/64)%4294967296) ns).getD (i%64) 0
theorem mkTo_succ (ks:List Nat)(c:Nat)(ns X:List Nat)(n:Nat):mkTo ks c ns X (n+1)=mkTo ks c ns X n++[X.getD n 0 ^^^ (blockN ks ((c+n/64)%4294967296) ns).getD (n%64) 0]:=by
 simp [mkTo,List.range_succ]
theorem mkTo_all (ks:List Nat)(c:Nat)(ns X:List Nat):mkTo ks c ns X X.length=maskN ks c ns X:=rfl
def quad (l:List Nat)(i:Nat):List Nat:=[l.getD (4*i) 0,l.getD (4*i+1) 0,l.getD (4*i+2) 0,l.getD (4*i+3) 0]
theorem quad_lt {l:List Nat}(h:∀i,l.getD i 0<256)(i:Nat):∀j,(quad l i).getD j 0<256
 | 0=>h _
 | 1=>h _
 | 2=>h _
 | 3=>h _
 | _+4=>(by decide:(0:Nat)<256)
theorem quad_part {l:List Nat}{i:Nat}(h:4*i+4≤l.length):PartAt (cn .u8 l) (4*i) (cn .u8 (quad l i)):=fun j v hj=>by
 match j with
 | 0=>rw [cn_get _ _ _ (show 0<(quad l i).length from(by decide:0<4))]at hj;cases hj;exact cn_get .u8 l (4*i+0) (by omega)
 | 1=>rw [cn_get _ _ _ (show 1<(quad l i).length from(by decide:1<4))]at hj;cases hj;exact cn_get .u8 l (4*i+1) (by omega)
 | 2=>rw [cn_get _ _ _ (show 2<(quad l i).length from(by decide:2<4))]at hj;cases hj;exact cn_get .u8 l (4*i+2) (by omega)
 | 3=>rw [cn_get _ _ _ (show 3<(quad l i).length from(by decide:3<4))]at hj;cases hj;exact cn_get .u8 l (4*i+3) (by omega)
 | j+4=>rw [Array.getElem?_eq_none (by rw [cZ];simp [quad])]at hj;cases hj
theorem cutQ (l:List Nat)(i:Nat)(h:4*i+4≤l.length):(l.drop (4*i)).take (4*i+4-4*i)=quad l i:=by
 rw [show 4*i+4-4*i=4 by omega]
 refine List.ext_getElem (by simp [quad];omega) fun j h1 h2=>?_
 have hj:j<4:=h2
 simp only [List.getElem_take,List.getElem_drop]
 match j,hj with
 | 0,_=>simp [quad,List.getD_eq_getElem?_getD,List.getElem?_eq_getElem (show 4*i<l.length by omega)]
 | 1,_=>simp [quad,List.getD_eq_getElem?_getD,List.getElem?_eq_getElem (show 4*i+1<l.length by omega)]
 | 2,_=>simp [quad,List.getD_eq_getElem?_getD,List.getElem?_eq_getElem (show 4*i+2<l.length by omega)]
 | 3,_=>simp [quad,List.getD_eq_getElem?_getD,List.getElem?_eq_getElem (show 4*i+3<l.length by omega)]
def cwdL (X:List Nat):Nat:=cwd (X.getD 0 0) (X.getD 1 0) (X.getD 2 0) (X.getD 3 0)
theorem cwdL_or {X:List Nat}(h:∀i,X.getD i 0<256):X.getD 0 0+X.getD 1 0*256+X.getD 2 0*65536 ||| X.getD 3 0*16777216=cwdL X:=by
 have h1:=h 0
 have h2:=h 1
 have h3:=h 2
 rw [cwdL,cwd]
 have:=or_shl (a:=X.getD 0 0+X.getD 1 0*256+X.getD 2 0*65536) (b:=X.getD 3 0) 24 (by omega)
 rw [show(2:Nat)^24=16777216 from rfl]at this
 omega
theorem setTo_len16 (p c:Nat)(s:List Nat)(n:Nat):(setTo p s (lay0 c) n).length=16:=(setTo_len p s _ n).trans rfl
def missN (X:List Nat):List Nat:=List.replicate ((16-X.length%16)%16) 0
theorem missN_lt (X:List Nat)(i:Nat):(missN X).getD i 0<256:=rep0_lt (by decide) i
theorem missN_len (X:List Nat):(missN X).length<16:=by rw [missN,List.length_replicate];omega
def tagT (E C:List Nat):List Nat:=E++missN E++(C++missN C)++leB 8 E.length++leB 8 C.length
theorem tagT_flat (E C:List Nat):[E,missN E,C,missN C,leB 8 E.length,leB 8 C.length].flatten=tagT E C:=by simp [tagT]
theorem tagT_lt {E C:List Nat}(hE:∀i,E.getD i 0<256)(hC:∀i,C.getD i 0<256)(i:Nat):(tagT E C).getD i 0<256:=
 app_lt (app_lt (app_lt (app_lt hE (missN_lt E)) (app_lt hC (missN_lt C))) (leB_lt 8 _)) (leB_lt 8 _) i
theorem tagT_len (E C:List Nat):(tagT E C).length≤E.length+C.length+46:=by
 have h1:=missN_len E
 have h2:=missN_len C
 simp only [tagT,List.length_append,leB_len];omega
def onceN (K N:List Nat):List Nat:=(blockN K 0 N).take 32
theorem onceN_bytes (K N:List Nat):Bytes 32 (onceN K N):=⟨by simp [onceN,blockN,blockW_len],fun i=>take_lt (blockW_lt _) i⟩
def tagA (K N E C:List Nat):List Nat:=polyN (onceN K N) (tagT E C)
theorem tagA_len (K N E C:List Nat):(tagA K N E C).length=16:=tagTo_len _ _
theorem tagA_lt (K N E C:List Nat)(i:Nat):(tagA K N E C).getD i 0<256:=by rw [tagA,poly_leB];exact leB_lt 16 _ i
def sealN (K N E X:List Nat):List Nat:=maskN K 1 N X++tagA K N E (maskN K 1 N X)
theorem sealN_len (K N E X:List Nat):(sealN K N E X).length=X.length+16:=by simp [sealN,maskN_len,tagA_len]
theorem sealN_lt (K N E:List Nat){X:List Nat}(hX:∀i,X.getD i 0<256)(i:Nat):(sealN K N E X).getD i 0<256:=app_lt (maskN_lt K 1 N X hX) (tagA_lt K N E _) i
def opensN (K N E Z:List Nat):Prop:=16≤Z.length∧Z.drop (Z.length-16)=tagA K N E (Z.take (Z.length-16))
def plainN (K N Z:List Nat):List Nat:=maskN K 1 N (Z.take (Z.length-16))
theorem seal_opens (K N E X:List Nat):opensN K N E (sealN K N E X)∧plainN K N (sealN K N E X)=X:=by
 have h1:(sealN K N E X).length-16=(maskN K 1 N X).length:=by rw [sealN_len,maskN_len];omega
 refine⟨⟨by rw [sealN_len];omega,?_⟩,?_⟩
 ·rw [h1,sealN,List.drop_left,List.take_left]
 ·rw [plainN,h1,sealN,List.take_left,maskN_twice]
theorem noughts_cut {k:Nat}(h:k≤15):(([0,0,0,0,0,0,0,0,0,0,0,0,0,0,0]:List Nat).take k).drop 0=List.replicate k 0:=by
 rw [List.drop_zero,show([0,0,0,0,0,0,0,0,0,0,0,0,0,0,0]:List Nat)=List.replicate 15 0 from rfl,List.take_replicate,Nat.min_eq_left h]
theorem gen_leB8 (n v:Nat):genL n (fun i=>v/256^i%256) n=leB n v:=by
 refine ext_getD (by rw [genL_len,leB_len]) fun i hi=>?_
 rw [genL_len]at hi
 rw [genL_get _ _ _ hi,if_pos hi,leB_get hi]
theorem leB_more (n v:Nat):leB (n+1) v=leB n v++[v/256^n%256]:=by simp [leB,List.range_succ]
theorem rep_get (n k:Nat):(List.replicate n 0).getD k 0=0:=by rw [List.getD_eq_getElem?_getD,List.getElem?_replicate];split <;> rfl
theorem one_has {w:World}{g:Nat}{ob:Obj}(h:w.heap[g]? = some ob):Has w [(g,ob)]:=fun i x hx=>by
 cases i with
 | zero=>simp at hx;subst hx;exact h
 | succ i=>simp at hx
theorem MemS.fresh {w0 w:World}{L:Blks}{R:List Row}(M:MemS (fun k=>k<w0.heap.size) w0 w L R)(i:Nat){b:Nat}{ob:Obj}(h:L[i]? = some (b,ob)):w0.heap.size≤b:=Nat.le_of_not_lt (M.base i _ h)
def takN (n:Nat)(X:List Nat):List Nat:=X.take n++List.replicate (n-X.length) 0
theorem takN_len (n:Nat)(X:List Nat):(takN n X).length=n:=by simp [takN];omega
theorem dropD (X:List Nat)(k i:Nat):(X.drop k).getD i 0=X.getD (k+i) 0:=by simp [List.getD_eq_getElem?_getD]
theorem takN_get {n i:Nat}(X:List Nat)(h:i<n):(takN n X).getD i 0=X.getD i 0:=by
 rw [takN]
 rcases Nat.lt_or_ge i X.length with h1 | h1
 ·rw [getD_app_l _ _ _ (by simp;omega),List.getD_eq_getElem?_getD,List.getElem?_take,if_pos h,List.getD_eq_getElem?_getD]
 ·rw [getD_app_r _ _ _ (by simp;omega),rep_get,getD_out h1]
theorem takN_lt {X:List Nat}(hX:∀i,X.getD i 0<256)(n:Nat):∀i,(takN n X).getD i 0<256:=fun i=>by
 rcases Nat.lt_or_ge i n with h | h
 ·rw [takN_get X h];exact hX i
 ·rw [getD_out (by rw [takN_len];exact h)];decide
theorem dropX_min (X:List Nat)(n:Nat):X.drop (min X.length n)=X.drop n:=by
 rcases Nat.le_total X.length n with h | h
 ·rw [Nat.min_eq_left h,List.drop_length,List.drop_of_length_le h]
 ·rw [Nat.min_eq_right h]
theorem dropX_lt {X:List Nat}(hX:∀i,X.getD i 0<256)(n:Nat):∀i,(X.drop n).getD i 0<256:=fun i=>by rw [dropD];exact hX _
theorem tak_cells (n:Nat)(X:List Nat):setFrom (cn .u8 (List.replicate n 0)) 0 (bcells (X.take n))=cn .u8 (takN n X):=by
 apply Array.ext_getElem?
 intro j
 rw [setFrom_get]
 have hb:(bcells (X.take n)).length=min n X.length:=by simp [bcells]
 rcases Nat.lt_or_ge j n with h | h
 ·rw [show(cn .u8 (takN n X))[j]? = some (iB (X.getD j 0))by rw [cn_get _ _ _ (by rw [takN_len];exact h),takN_get X h]]
  by_cases h1:j<X.length
  ·rw [if_pos ⟨Nat.zero_le _,by rw [hb];omega,by rw [cZ,List.length_replicate];exact h⟩]
   simp [bcells,h,List.getD_eq_getElem?_getD,List.getElem?_eq_getElem h1]
  ·rw [if_neg (fun q=>by have:=q.2.1;rw [hb]at this;omega),cn_get _ _ _ (by rw [List.length_replicate];exact h),rep_get,getD_out (by omega)]
 ·rw [if_neg (fun q=>by have:=q.2.2;rw [cZ,List.length_replicate]at this;omega),Array.getElem?_eq_none (by rw [cZ,List.length_replicate];exact h),Array.getElem?_eq_none (by rw [cZ,takN_len];exact h)]
theorem tkI_end (n:Nat)(X:List Nat):genL n (fun j=>X.getD j 0) n=takN n X:=by
 refine ext_getD (by rw [genL_len,takN_len]) fun i hi=>?_
 rw [genL_len]at hi
 rw [genL_get _ _ _ hi,if_pos hi,takN_get X hi]
theorem tk_zero {X:List Nat}{n i:Nat}(h:X.length≤i)(_hi:i<n):genL n (fun j=>X.getD j 0) (i+1)=genL n (fun j=>X.getD j 0) i:=by
 refine ext_getD (by rw [genL_len,genL_len]) fun j hj=>?_
 rw [genL_len]at hj
 rw [genL_get _ _ _ hj,genL_get _ _ _ hj]
 by_cases e:j=i
 ·subst e;rw [if_pos (by omega),if_neg (by omega),getD_out h]
 ·by_cases h1:j<i
  ·rw [if_pos (by omega),if_pos h1]
  ·rw [if_neg (by omega),if_neg h1]
end Go.Proofs.YtdokjecjiifciaaGreatDoor
namespace Go.Proofs.YtdokjecjiifciaaGreatDoor
open Go.RowKit
section
variable {K V:Type}
def ents (kf:K→Value)(vf:V→Value):Nat→List (K×V)→List MapEntry
 | _,[]=>[]
 | i,p::r=>⟨kf p.1,vf p.2,i⟩::ents kf vf (i+1) r
def mapO (kf:K→Value)(vf:V→Value)(l:List (K×V)):Obj:=.map (ents kf vf 0 l).toArray l.length
def mget [DecidableEq K](x:K):List (K×V)→Option V
 | []=>none
 | p::r=>if p.1=x then some p.2 else mget x r
def mput [DecidableEq K](x:K)(v:V):List (K×V)→List (K×V)
 | []=>[(x,v)]
 | p::r=>if p.1=x then(x,v)::r else p::mput x v r
def Uniq (l:List (K×V)):Prop:=l.Pairwise fun p q=>p.1≠q.1
variable {kf:K→Value} {vf:V→Value}
theorem ents_get:∀(l:List (K×V)) (i j:Nat),(ents kf vf i l)[j]? = (l[j]?).map fun p=>⟨kf p.1,vf p.2,i+j⟩
 | [],_,_=>by simp [ents]
 | p::r,i,0=>by simp [ents]
 | p::r,i,j+1=>by
  simp only [ents,List.getElem?_cons_succ]
  rw [ents_get r (i+1) j,Nat.add_right_comm,Nat.add_assoc]
theorem ents_app:∀(l:List (K×V)) (i:Nat) (p:K×V),ents kf vf i (l++[p])=ents kf vf i l++[⟨kf p.1,vf p.2,i+l.length⟩]
 | [],i,p=>by simp [ents]
 | q::r,i,p=>by
  simp only [List.cons_append,ents]
  rw [ents_app r (i+1) p,List.length_cons,Nat.add_right_comm,Nat.add_assoc]
theorem ents_set (x:K)(v:V):∀(l:List (K×V)) (i j:Nat),j<l.length→ents kf vf i (l.set j (x,v))=(ents kf vf i l).set j ⟨kf x,vf v,i+j⟩
 | [],_,_,h=>by simp at h
 | q::r,i,0,_=>by simp [ents]
 | q::r,i,j+1,h=>by
  simp only [List.set_cons_succ,ents]
  rw [ents_set x v r (i+1) j (by simpa using h),Nat.add_right_comm,Nat.add_assoc]
theorem makeMap_ok {P:Program}{t:TypeId}{sl:Slots}{L:Blks}{o:Oper}(ho:o.op=.makeMap t none):RunN P sl L o (mkOf (.map none)) (mapO kf vf []):=fun ρ w A _=>by
 simp [execOp,ho,run_makeMap,mkOf,mapO,ents]
variable [DecidableEq K]
theorem mput_new {x:K}(v:V):∀{l:List (K×V)},mget x l=none→mput x v l=l++[(x,v)]
 | [],_=>rfl
 | p::r,h=>by
  rw [mget]at h
  split at h
  ·cases h
  ·rename_i e
   rw [mput,if_neg e,mput_new v h,List.cons_append]
theorem mget_mem {x:K}{v:V}:∀{l:List (K×V)},mget x l=some v→(x,v)∈l
 | [],h=>by cases h
 | p::r,h=>by
  rw [mget]at h
  split at h
  ·rename_i e
   rw [←e,←Option.some.inj h]
   exact List.mem_cons_self ..
  ·exact List.mem_cons_of_mem _ (mget_mem h)
theorem mget_none {x:K}:∀{l:List (K×V)},(∀p∈l,p.1≠x)→mget x l=none
 | [],_=>rfl
 | p::r,h=>by rw [mget,if_neg (h p (List.mem_cons_self ..)),mget_none fun q hq=>h q (List.mem_cons_of_mem _ hq)]
theorem mget_at {x:K}{v:V}:∀{l:List (K×V)} {j:Nat},Uniq l→l[j]? = some (x,v)→mget x l=some v∧∀u,mput x u l=l.set j (x,u)
 | [],_,_,h=>by simp at h
 | p::r,0,_,h=>by
  simp only [List.getElem?_cons_zero,Option.some.injEq]at h
  subst h
  exact⟨by rw [mget,if_pos rfl],fun u=>by rw [mput,if_pos rfl,List.set_cons_zero]⟩
 | p::r,j+1,hu,h=>by
  obtain⟨h1,h2⟩:=List.pairwise_cons.1 hu
  simp only [List.getElem?_cons_succ]at h
  have hne:p.1≠x:=h1 (x,v) (List.mem_of_getElem? h)
  obtain⟨a,b⟩:=mget_at h2 h
  exact⟨by rw [mget,if_neg hne,a],fun u=>by rw [mput,if_neg hne,b,List.set_cons_succ]⟩
theorem mem_mput {x:K}{v:V}{p:K×V}:∀{l:List (K×V)},p∈mput x v l→p=(x,v)∨p∈l
 | [],h=>by simpa [mput]using h
 | q::r,h=>by
  unfold mput at h
  split at h
  ·rcases List.mem_cons.1 h with h | h
   ·exact .inl h
   ·exact .inr (List.mem_cons_of_mem _ h)
  ·rcases List.mem_cons.1 h with h | h
   ·exact .inr (h▸List.mem_cons_self ..)
   ·exact(mem_mput h).imp_right (List.mem_cons_of_mem _)
theorem Uniq.put {l:List (K×V)}(h:Uniq l)(x:K)(v:V):Uniq (mput x v l):=by
 induction l with
 | nil=>simp [mput,Uniq]
 | cons p r ih=>
  obtain⟨h1,h2⟩:=List.pairwise_cons.1 h
  unfold mput
  split
  ·rename_i e
   exact List.pairwise_cons.2 ⟨fun q hq=>by rw [←e];exact h1 q hq,h2⟩
  ·rename_i e
   refine List.pairwise_cons.2 ⟨fun q hq=>?_,ih h2⟩
   rcases mem_mput hq with rfl | hq
   ·exact e
   ·exact h1 q hq
structure MKey (P:Program)(k:TypeId)(kf:K→Value)(Ok:K→Prop):Prop where
 law:WideMaps.KeyLaw P k
 lit:∀x,Ok x→∃l,keyOf P k (kf x)=some l
 inj:∀x y,Ok x→Ok y→kf x=kf y→x=y
variable {P:Program} {k t e:TypeId} {Ok:K→Prop} {l:List (K×V)} {x:K}
theorem find_ents (H:MKey P k kf Ok)(hl:∀p∈l,Ok p.1)(hu:Uniq l)(hx:Ok x)(w:World) :
  (mget x l=none∧(Instr.findKey k (kf x) (ents kf vf 0 l)).run P w=.ok none w)∨∃v j,mget x l=some v∧l[j]? = some (x,v)∧(∀u,mput x u l=l.set j (x,u))∧(Instr.findKey k (kf x) (ents kf vf 0 l)).run P w=.ok (some (j,vf v)) w:=by
 obtain⟨lx,hlx⟩:=H.lit x hx
 rcases H.law.find w hlx (ents kf vf 0 l) (fun m hm=>by
  obtain⟨j,hj⟩:=List.mem_iff_getElem?.1 hm
  rw [ents_get]at hj
  obtain⟨p,hp,rfl⟩:=Option.map_eq_some_iff.1 hj
  exact H.lit p.1 (hl p (List.mem_of_getElem? hp)))with⟨h1,h2⟩ | ⟨j,m,h1,h2,h3⟩
 ·refine .inl ⟨mget_none fun p hp hpx=>?_,h1⟩
  obtain⟨j,hj⟩:=List.mem_iff_getElem?.1 hp
  exact h2 ⟨kf p.1,vf p.2,0+j⟩ (List.mem_of_getElem? ((ents_get l 0 j).trans (by rw [hj];rfl))) (by rw [hpx])
 ·rw [ents_get]at h2
  obtain⟨p,hp,rfl⟩:=Option.map_eq_some_iff.1 h2
  obtain rfl:=H.inj p.1 x (hl p (List.mem_of_getElem? hp)) hx h3
  have:=mget_at hu hp
  exact .inr ⟨p.2,j,this.1,hp,this.2,h1⟩
variable {sl:Slots} {L:Blks} {o:Oper} {m y:Operand} {b i:Nat}
theorem mapYes_ok {c:Bool}{v:V}(ho:o.op=.lookup t m y c)(hm:evO sl m=some (.map (some b)))(hy:evO sl y=some (kf x))(ht:P.underlying t=some (.map k e))(H:MKey P k kf Ok)(hl:∀p∈l,Ok p.1)(hu:Uniq l)(hx:Ok x)
  (hL:L[i]? = some (b,mapO kf vf l)) (h:mget x l=some v):RunV P sl L o (if c then .tuple #[vf v,.bool true]else vf v):=fun ρ w A Hw=>by
 obtain⟨lx,hlx⟩:=H.lit x hx
 have h1:=A m _ hm
 have h2:=A y _ hy
 have hb:w.heap[b]? = some (.map (ents kf vf 0 l).toArray l.length):=Hw i _ hL
 rcases find_ents (vf:=vf) H hl hu hx w with⟨q,_⟩ | ⟨u,j,q,_,_,hf⟩
 ·rw [h]at q;cases q
 ·rw [h]at q
  obtain rfl:=Option.some.inj q
  simp [execOp,ho,h1,h2,Instr.lookup,run_underlying ht,MapKept.run_getObj_map hb,H.law.check w _ hlx,hf,Result.andThen]
theorem zero_run {P:Program}{e:TypeId}{z:Value}(hi:(P.info? e).map (·.zero)=some (some z))(w:World):(zeroValue e).run P w=.ok z w:=by
 obtain⟨i,h1,h2⟩:=Option.map_eq_some_iff.1 hi
 simp [zeroValue,run_typeInfo w h1,h2]
theorem mapNo_ok {c:Bool}{z:Value}(ho:o.op=.lookup t m y c)(hm:evO sl m=some (.map (some b)))(hy:evO sl y=some (kf x))(ht:P.underlying t=some (.map k e))(H:MKey P k kf Ok)(hl:∀p∈l,Ok p.1)(hu:Uniq l)(hx:Ok x)
  (hL:L[i]? = some (b,mapO kf vf l)) (hi:(P.info? e).map (·.zero)=some (some z)) (h:mget x l=none):RunV P sl L o (if c then .tuple #[z,.bool false]else z):=fun ρ w A Hw=>by
 obtain⟨lx,hlx⟩:=H.lit x hx
 have h1:=A m _ hm
 have h2:=A y _ hy
 have hb:w.heap[b]? = some (.map (ents kf vf 0 l).toArray l.length):=Hw i _ hL
 rcases find_ents (vf:=vf) H hl hu hx w with⟨_,hf⟩ | ⟨u,j,q,_,_,hf⟩
 ·simp [execOp,ho,h1,h2,Instr.lookup,run_underlying ht,MapKept.run_getObj_map hb,H.law.check w _ hlx,hf,zero_run hi,Result.andThen]
 ·rw [h]at q;cases q
theorem post_block {ob ob':Obj}{w:World}{v:Nat→Value}(hL:L[i]? = some (b,ob))(hb:w.heap[b]? = some ob):Post w (ChangeMaps.setBlock w b ob') L ⟨v,none,[(i,ob')]⟩ 0:=by
 refine⟨rfl,rfl,rfl,by simp [ChangeMaps.setBlock],fun j _ hn=>?_,fun o h=>(nomatch h),fun _=>rfl,fun u hu z hz=>?_⟩
 ·have:b≠j:=hn (i,ob') (by simp) _ hL
  simp only [ChangeMaps.setBlock]
  exact Array.getElem?_setIfInBounds_ne this
 ·obtain rfl:u=(i,ob'):=by simpa using hu
  simp only at hz
  rw [hL]at hz
  obtain rfl:=Option.some.inj hz
  simp only [ChangeMaps.setBlock]
  rw [Array.getElem?_setIfInBounds,if_pos rfl,if_pos (lt_of_block hb)]
theorem mapPut_ok {v:V}{z:Operand}(ho:o.op=.mapUpdate t m y z)(hm:evO sl m=some (.map (some b)))(hy:evO sl y=some (kf x))(hz:evO sl z=some (vf v))(ht:P.underlying t=some (.map k e))(H:MKey P k kf Ok)(hl:∀p∈l,Ok p.1)(hu:Uniq l)(hx:Ok x)
  (hL:L[i]? = some (b,mapO kf vf l)):RunU P sl L o undef [(i,mapO kf vf (mput x v l))]:=fun ρ w A Hw=>by
 obtain⟨lx,hlx⟩:=H.lit x hx
 have h1:=A m _ hm
 have h2:=A y _ hy
 have h3:=A z _ hz
 have hb:w.heap[b]? = some (.map (ents kf vf 0 l).toArray l.length):=Hw i _ hL
 refine⟨ChangeMaps.setBlock w b (mapO kf vf (mput x v l)),.inr ⟨rfl,?_⟩,post_block hL hb⟩
 rcases find_ents (vf:=vf) H hl hu hx w with⟨q,hf⟩ | ⟨u,j,q,hj,hp,hf⟩
 ·rw [mput_new v q]
  simp [execOp,ho,h1,h2,h3,Instr.mapUpdate,run_underlying ht,MapKept.run_getObj_map hb,H.law.check w _ hlx,hf,MapKept.run_setObj_map _ hb,Result.andThen,ChangeMaps.setBlock,mapO,ents_app]
 ·have hjl:j<l.length:=(List.getElem?_eq_some_iff.1 hj).1
  have hje:(ents kf vf 0 l)[j]? = some ⟨kf x,vf u,0+j⟩:=(ents_get l 0 j).trans (by rw [hj];rfl)
  have hm':(ents kf vf 0 l).modify j (fun e'=>{ e' with key:=kf x,val:=vf v })=ents kf vf 0 (mput x v l):=by
   rw [ChangeMaps.modify_eq_set _ _ _ _ hje,hp,ents_set x v l 0 j hjl]
  simp [execOp,ho,h1,h2,h3,Instr.mapUpdate,run_underlying ht,MapKept.run_getObj_map hb,H.law.check w _ hlx,hf,hje,H.law.stays w hlx,MapKept.run_setObj_map _ hb,Result.andThen,ChangeMaps.setBlock,mapO,hm']
  rw [hp,List.length_set]
end
section
variable {P:Program} {d k e f n m:Nat}
theorem mapM_all {α β:Type}{g:α→Option β}:∀{l:List α},(∀x∈l,∃y,g x=some y)→∃ys,l.mapM g=some ys
 | [],_=>⟨[],rfl⟩
 | x::r,h=>by
  obtain⟨y,hy⟩:=h x (List.mem_cons_self ..)
  obtain⟨ys,hys⟩:=mapM_all fun z hz=>h z (List.mem_cons_of_mem _ hz)
  exact⟨y::ys,by simp [List.mapM_cons,hy,hys]⟩
def BytesK (n:Nat)(X:List Nat):Prop:=X.length=n∧∀i,X.getD i 0<256
theorem lits_u8 (he:P.underlying e=some (.int .u8)){x:Nat}(hx:x<256):P.keyLits (d+1) e [.int .u8 (x:Nat)]=some [.int .u8 (x:Nat)]:=by
 unfold Program.keyLits
 rw [he]
 refine if_pos ⟨rfl,?_⟩
 rw [Lit.wf,Bool.and_eq_true,decide_eq_true_eq,decide_eq_true_eq]
 exact⟨by show(0:Int)≤x;omega,by show(x:Int)≤255;omega⟩
theorem lits_str (he:P.underlying e=some .string){X:List Nat}(hX:X.length≤maxLen):∃l,P.keyLits (d+1) e [.string (bs X)]=some l:=by
 unfold Program.keyLits
 rw [he]
 exact⟨_,if_pos (by rw [bs_size];exact hX)⟩
theorem lits_bytes {X:List Nat}(ht:P.underlying k=some (.array n e))(he:P.underlying e=some (.int .u8))(h1:P.cellsOf e=1)(hn:P.cellsOf k=n)(hX:BytesK n X):∃l,P.keyLits (d+2) k (cn .u8 X).toList=some l:=by
 have hl:(cn .u8 X).toList.length=n:=by rw [Array.length_toList,cZ];exact hX.1
 obtain⟨ys,hys⟩:=mapM_all (g:=fun i=>P.keyLits (d+1) e (((cn .u8 X).toList.drop (i*1)).take 1)) (l:=List.range n) fun i hi=>by
  have hi':i<X.length:=by have:=List.mem_range.1 hi;have:=hX.1;omega
  have e1:((cn .u8 X).toList.drop (i*1)).take 1=[.int .u8 (X.getD i 0:Nat)]:=by
   rw [Nat.mul_one]
   refine List.ext_getElem? fun j=>?_
   rw [List.getElem?_take]
   split
   ·obtain rfl:j=0:=by omega
    rw [List.getElem?_drop,Nat.add_zero,Array.getElem?_toList,cn_get _ _ _ hi']
    rfl
   ·rw [List.getElem?_eq_none (by simp only [List.length_cons,List.length_nil];omega)]
  exact⟨_,by rw [e1];exact lits_u8 he (hX.2 i)⟩
 refine⟨ys.flatten,?_⟩
 unfold Program.keyLits
 rw [ht]
 dsimp only
 rw [if_pos (by rw [hl,hn]),h1,hys]
 rfl
theorem bytes_key (hl:laidOutB P=true)(hs:P.types.size+2≤10000)(hd:P.types.size=d+1)(hr:k<P.types.size)(hk:P.keyType k=true)(ht:P.underlying k=some (.array n e))(he:P.underlying e=some (.int .u8))(h1:P.cellsOf e=1)(hn:P.cellsOf k=n) :
  MKey P k (fun X=>.agg (cn .u8 X)) (BytesK n) where
 law:=deep_law_gate hl hs hr hk (by rw [ht])
 lit X hX:=by
  obtain⟨l,h⟩:=lits_bytes (d:=d) ht he h1 hn hX
  exact⟨_,by simp only [keyOf,ht,hk,Value.formed,Value.cells,cZ,hX.1,hn,hd,h,BEq.rfl,Bool.and_self,if_true,Option.map_some];rfl⟩
 inj X Y hX hY h:=by
  refine List.ext_getElem (hX.1.trans hY.1.symm) fun i h1 h2=>?_
  have e1:=cn_get .u8 X i h1
  rw [Value.agg.inj h,cn_get .u8 Y i h2]at e1
  have e2:=Int.ofNat.inj (Value.int.inj (Option.some.inj e1)).2
  rw [List.getD_eq_getElem?_getD,List.getD_eq_getElem?_getD,List.getElem?_eq_getElem h1,List.getElem?_eq_getElem h2]at e2
  exact e2.symm
end
end Go.Proofs.YtdokjecjiifciaaGreatDoor
namespace Go.Proofs.YtdokjecjiifciaaGreatDoor
open Go.RowKit
set_option maxRecDepth 100000
abbrev Pairs:=List (List Nat×List Nat)
def OkP (n:Nat)(ks:Pairs):Prop:=(∀p∈ks,BytesK n p.1∧BytesK n p.2)∧Uniq ks
theorem okP_nil (n:Nat):OkP n []:=⟨fun _ h=>(nomatch h),List.Pairwise.nil⟩
def ownN (K:List Nat)(ks:Pairs):List Nat:=(mget K ks).getD K
theorem own_ok {n:Nat}{ks:Pairs}{K:List Nat}(hk:OkP n ks)(hK:BytesK n K):BytesK n (ownN K ks):=by
 unfold ownN
 cases h:mget K ks with
 | none=>exact hK
 | some v=>exact(hk.1 _ (mget_mem h)).2
def shareK (i:Bool)(n:Nat)(K:List Nat)(ks:Pairs)(Y:List Nat):Pairs:=match mget K ks with | some _=>ks | none=>ks++[(K,if i then takN n Y else K)]
def shareU (i:Bool)(n:Nat)(K:List Nat)(ks:Pairs):Nat:=match mget K ks with | some _=>0 | none=>if i then n else 0
theorem share_yes {i:Bool}{n:Nat}{K own:List Nat}{ks:Pairs}(h:mget K ks=some own)(Y:List Nat):shareK i n K ks Y=ks∧shareU i n K ks=0:=by
 unfold shareK shareU
 rw [h]
 exact⟨rfl,rfl⟩
theorem share_no {i:Bool}{n:Nat}{K:List Nat}{ks:Pairs}(h:mget K ks=none)(Y:List Nat):shareK i n K ks Y=ks++[(K,if i then takN n Y else K)]∧shareU i n K ks=if i then n else 0:=by
 unfold shareK shareU
 rw [h]
 exact⟨rfl,rfl⟩
theorem share_ok {n:Nat}{K:List Nat}{ks:Pairs}(i:Bool){Y:List Nat}(hk:OkP n ks)(hK:BytesK n K)(hY:∀i,Y.getD i 0<256):OkP n (shareK i n K ks Y):=by
 cases h:mget K ks with
 | some v=>rw [(share_yes h Y).1];exact hk
 | none=>
  rw [(share_no h Y).1,←mput_new _ h]
  refine⟨fun p hp=>?_,hk.2.put _ _⟩
  rcases mem_mput hp with rfl | hp
  ·refine⟨hK,?_⟩
   show BytesK n (if i then takN n Y else K)
   split
   ·exact⟨takN_len _ _,takN_lt hY n⟩
   ·exact hK
  ·exact hk.1 p hp
abbrev BoxK:=List Nat×List Nat×List Nat
abbrev Notes:=List (BoxK×List Nat)
def OkB (x:BoxK):Prop:=BytesK 32 x.1∧BytesK 12 x.2.1∧(∀i,x.2.2.getD i 0<256)∧x.2.2.length≤1000000
def boxN (i:Bool)(K N:List Nat)(ks:Pairs)(X:List Nat):List Nat:=if i&&(mget K ks).isSome then sealN (ownN K ks) N [] (List.replicate X.length 0)else sealN K N [] X
theorem box_no {i:Bool}{K N:List Nat}{ks:Pairs}(h:mget K ks=none)(X:List Nat):boxN i K N ks X=sealN K N [] X:=by
 unfold boxN
 rw [h,if_neg (by simp)]
theorem box_real {K N own:List Nat}{ks:Pairs}(_h:mget K ks=some own)(X:List Nat):boxN false K N ks X=sealN K N [] X:=if_neg (by simp)
theorem box_ideal {K N own:List Nat}{ks:Pairs}(h:mget K ks=some own)(X:List Nat):boxN true K N ks X=sealN (ownN K ks) N [] (List.replicate X.length 0):=if_pos (by rw [h];rfl)
def noteP (i:Bool)(K N:List Nat)(ks:Pairs)(X:List Nat)(pn:Notes):Notes:=if(mget K ks).isSome then mput (K,N,boxN i K N ks X) X pn else pn
instance (K N E Z:List Nat):Decidable (opensN K N E Z):=by unfold opensN;infer_instance
theorem noteP_no {i:Bool}{K N:List Nat}{ks:Pairs}(h:mget K ks=none)(X:List Nat)(pn:Notes):noteP i K N ks X pn=pn:=if_neg (by rw [h];simp)
theorem noteP_yes {i:Bool}{K N own:List Nat}{ks:Pairs}(h:mget K ks=some own)(X:List Nat)(pn:Notes):noteP i K N ks X pn=mput (K,N,boxN i K N ks X) X pn:=if_pos (by rw [h];rfl)
theorem loadPi {P:Program}{l:Slots}{L:Blks}{o:Oper}{x:Operand}{t:TypeId}{g k m off:Nat}{cs ps:Array Value}{e:TypeId}{fr:Nat×Nat}{d:TypeDesc}(ho:o.op=.load t x)(hx:evO l x=some (.pointer (some ⟨g,off,none⟩)))(ht:P.underlying t=some d)(hd:d.isRow=true)(hi:(P.info? t).map (·.size)=some m)(hL:L[k]? = some (g,.cells cs e fr))(hp:PartAt cs off ps)(hm:ps.size=m):RunV P l L o (.agg ps):=fun ρ w A H=>by
 have e1:ρ x=.pointer (some ⟨g,off,none⟩):=A x _ hx
 have:=run_loadAt_mid (P:=P) w g off t ps.toList d (fun j v hv=>by rw [cell_of (H k _ hL)];exact hp j v (by simpa using hv)) ht hd (by rw [hi,←hm];simp)
 simp only [execOp,ho,e1,Sem.run_bind,this,Result.andThen_ok,Sem.run_pure]
theorem ret_cc {P:Program}{n:Nat}{a:Act}{l:Slots}{S:Nat→Prop}{w0 w:World}{L:Blks}{R:List Row}{fn:Func}{R':Ending→World→Prop}{t u b b2 k k2 i i2 j m:Nat}{ty tu T T2:TypeId}{cs cs2:Array Value}{dd d2:TypeDesc}(F:Fr n a l)(M:MemS S w0 w L R)(hf:fn.results=#[.cell t ty,.cell u tu])(ht:l[j]? = some (t,pT b))(hb:L[i]? = some (b,.cells cs T))(hy:l[m]? = some (u,pT b2))(hb2:L[i2]? = some (b2,.cells cs2 T2))
  (hu:P.underlying ty=some dd) (hu2:P.underlying tu=some d2) (hdd:dd.isRow=true) (hd2:d2.isRow=true) (hi:(P.info? ty).map (·.size)=some k) (hi2:(P.info? tu).map (·.size)=some k2) (hk:cs.size=k) (hk2:cs2.size=k2) (hR:R' (.returned (.tuple #[.agg cs,.agg cs2])) w):bodyPost P fn R' .ret a w:=by
 refine bodyPost_ret (v:=.tuple #[.agg cs,.agg cs2]) ?_ F.defers hR
 have hb':=M.get i hb
 have hc':=M.get i2 hb2
 have ha:=F.get j ht
 have hy':=F.get m hy
 have hl:=run_loadVar_mid (P:=P) w b 0 ty cs.toList dd (fun j v hv=>by rw [Nat.zero_add,cell_of hb'];simpa using hv) hu hdd (by rw [hi];simp [hk])
 have hl2:=run_loadVar_mid (P:=P) w b2 0 tu cs2.toList d2 (fun j v hv=>by rw [Nat.zero_add,cell_of hc'];simpa using hv) hu2 hd2 (by rw [hi2];simp [hk2])
 simp [results,hf,ha,hl,hl2,asAddr,hy']
theorem at3s (A B C:List Nat):∀j,j < [A,B,C].length→(#[sB A,sB B,sB C]:Array Value)[0+j]? = some (sB ([A,B,C].getD j [])):=fun j h=>by
 have:j=0∨j=1∨j=2:=by simp at h;omega
 rcases this with rfl | rfl | rfl <;> rfl
theorem lt3t {A B C:List Nat}(h1:∀i,A.getD i 0<256)(h2:∀i,B.getD i 0<256)(h3:∀i,C.getD i 0<256):∀V∈[A,B,C],∀i,V.getD i 0<256:=fun V hV=>by
 simp only [List.mem_cons,List.not_mem_nil,or_false]at hV
 rcases hV with rfl | rfl | rfl <;> assumption
def leT (X Y:List Nat):Prop:=(bs X).data.toList<(bs Y).data.toList∨(bs X).data.toList=(bs Y).data.toList
noncomputable def lesN (X Y:List Nat):List Nat:=@ite _ (leT X Y) (Classical.propDecidable _) X Y
theorem lesN_yes {X Y:List Nat}(h:leT X Y):lesN X Y=X:=if_pos h
theorem lesN_no {X Y:List Nat}(h:¬leT X Y):lesN X Y=Y:=if_neg h
theorem les_ok {n:Nat}{X Y:List Nat}(hX:BytesK n X)(hY:BytesK n Y):BytesK n (lesN X Y):=by
 by_cases h:leT X Y
 ·rw [lesN_yes h];exact hX
 ·rw [lesN_no h];exact hY
theorem minS_bs (X Y:List Nat):Go.Lib.minS (bs X) (bs Y)=bs (lesN X Y):=by
 by_cases h:leT X Y
 ·rw [lesN_yes h];exact if_pos h
 ·rw [lesN_no h];exact if_neg h
theorem minS_ok {P:Program}{l:Slots}{L:Blks}{o:Oper}{x y:Operand}{t u:TypeId}{X Y:List Nat}(ho:o.op=.call ⟨.builtin .min,#[x,y],#[t,u]⟩)(hx:evO l x=some (sB X))(hy:evO l y=some (sB Y)):RunV P l L o (sB (lesN X Y)):=fun ρ w A _=>by
 have h1:=A x _ hx
 have h2:=A y _ hy
 have h3:=Go.Lib.run_min_strs (P:=P) w #[t,u] o.type (bs X) (bs Y)
 rw [minS_bs]at h3
 simp [execOp,ho,resolve,invoke,builtin,h1,h2,h3]
noncomputable def rowN (X Y:List Nat):List Nat×List Nat:=if lesN X Y=Y then(Y,X)else(X,Y)
theorem rowN_yes {X Y:List Nat}(h:lesN X Y=Y):rowN X Y=(Y,X):=if_pos h
theorem rowN_no {X Y:List Nat}(h:¬lesN X Y=Y):rowN X Y=(X,Y):=if_neg h
theorem rowN_ok {n:Nat}{X Y:List Nat}(hX:BytesK n X)(hY:BytesK n Y):BytesK n (rowN X Y).1∧BytesK n (rowN X Y).2:=by
 unfold rowN
 split
 ·exact⟨hY,hX⟩
 ·exact⟨hX,hY⟩
theorem bs_list_inj {n:Nat}{X Y:List Nat}(hX:BytesK n X)(hY:BytesK n Y)(h:(bs X).data.toList=(bs Y).data.toList):X=Y:=
 bs_inj hX.2 hY.2 (by
  have h1:(bs X).data=(bs Y).data:=Array.toList_inj.1 h
  cases hx:bs X;cases hy:bs Y
  rw [hx,hy]at h1
  exact congrArg _ h1)
theorem rowN_comm {n:Nat}{X Y:List Nat}(hX:BytesK n X)(hY:BytesK n Y):rowN X Y=rowN Y X:=by
 by_cases e:X=Y
 ·rw [e]
 have ne:(bs X).data.toList≠(bs Y).data.toList:=fun h=>e (bs_list_inj hX hY h)
 by_cases h:(bs X).data.toList<(bs Y).data.toList
 ·have h2:¬(bs Y).data.toList<(bs X).data.toList:=List.lt_asymm h
  have e1:lesN X Y=X:=lesN_yes (.inl h)
  have e2:lesN Y X=X:=lesN_no (fun q=>q.elim h2 (fun q=>ne q.symm))
  rw [rowN_no (by rw [e1];exact e),rowN_yes e2]
 ·have h2:(bs Y).data.toList<(bs X).data.toList:=by
   rcases List.le_iff_lt_or_eq.1 (List.not_lt.1 h)with q | q
   ·exact q
   ·exact absurd q.symm ne
  have e1:lesN X Y=Y:=lesN_no (fun q=>q.elim h ne)
  have e2:lesN Y X=Y:=lesN_yes (.inl h2)
  rw [rowN_yes e1,rowN_no (by rw [e2];exact fun q=>e q.symm)]
def kyN (L X Y Z:List Nat):List Nat:=shaN (packN [L]++packN [X,Y,Z])
theorem kyN_ok (L X Y Z:List Nat):BytesK 32 (kyN L X Y Z):=⟨(shaN_bytes _).len,(shaN_bytes _).lt⟩
def tLab:List Nat:=[98,105,108,108,101,116,32,116,97,108,107]
def dLab:List Nat:=[98,105,108,108,101,116,32,100,114,111,112]
def nLab:List Nat:=[98,105,108,108,101,116,32,110,97,109,101]
def ssN (A B:List Nat):List Nat:=keyL (curveN A B)
theorem ssN_ok (A B:List Nat):BytesK 32 (ssN A B):=⟨(keyL_bytes _).1,(keyL_bytes _).2⟩
def pbN (A:List Nat):List Nat:=keyL (pubN A)
theorem pbN_ok (A:List Nat):BytesK 32 (pbN A):=⟨(keyL_bytes _).1,(keyL_bytes _).2⟩
def outN (A B:List Nat):List Nat:=kyN tLab (ssN A B) (pbN A) B
def inN (A B:List Nat):List Nat:=kyN tLab (ssN A B) B (pbN A)
noncomputable def rootN (A B:List Nat):List Nat:=kyN dLab (ssN A B) (rowN (pbN A) B).1 (rowN (pbN A) B).2
theorem outN_ok (A B:List Nat):BytesK 32 (outN A B):=kyN_ok ..
theorem inN_ok (A B:List Nat):BytesK 32 (inN A B):=kyN_ok ..
theorem rootN_ok (A B:List Nat):BytesK 32 (rootN A B):=kyN_ok ..
def nmN (R:List Nat)(r:Nat):List Nat:=idN nLab [R,leN 8 r]
theorem nmN_ok (R:List Nat)(r:Nat):BytesK 16 (nmN R r):=⟨idN_len _ _,idN_lt _ _⟩
theorem en_tnew:Enters Tryz.prog 11:=fun args w=>by simp [go_sem]
theorem en_take:Enters Tryz.prog 113:=fun args w=>by simp [go_sem]
theorem en_tused:Enters Tryz.prog 18:=fun args w=>by simp [go_sem]
theorem en_tkey:Enters Tryz.prog 79:=fun args w=>by simp [go_sem]
theorem en_tid:Enters Tryz.prog 77:=fun args w=>by simp [go_sem]
abbrev TB (X:List Nat)(u:Nat):Obj:=.cells #[sB X,iN u] 119
theorem take_any (g n:Nat)(X:List Nat)(u:Nat)(hX:∀i,X.getD i 0<256)(hu:u<4611686018427387904)(hn:n≤65536)(w0:World)(hg:w0.heap[g]? = some (TB X u)) :
  Calls Tryz.prog 113 #[pT g,iN n] w0 fun e w'=>e=.returned (sB (takN n X))∧Turn g (TB (X.drop n) (u+n)) w0 w':=by
 refine eF Tryz.func113 rfl Tryz.ntmps113 (by simp) fun ac (FF:Fr 42 ac [(0,pT g),(1,iN n)])=>?_
 have MM:MemS (fun k=>k<w0.heap.size∧∀x∈(g,oC #[sB X,iN u] 119)::([]:Blks),x.1≠k) w0 w0 ((g,oC #[sB X,iN u] 119)::([]:Blks)) []:=MemS.startN (one_has hg) ⟨fun y hy=>(nomatch hy),trivial⟩
 refine wp_seq (rg_c FF MM [(0,t_ (sB []))] 5 [] [] (⟨(by kernel_rfl),fun _ _ FF1 MM1=>tN ?_⟩))
 refine wp_seq ?_
 refine wp_seq (rg_c FF1 MM1 [(1,f_ (.bool false)),(2,w_ 3),(3,w_ 3)] 5 [15] [] (⟨(ptrSome_ok (t:=32) (t':=32) (x:=(.tmp 6)) (y:=(.const (.pointer none))) (by kernel_rfl) rfl rfl Tryz.underlying32),(by have:=hn;omega),(by have:=hn;omega),fun _ _ FF2 MM2=>tN ?_⟩))
 refine wp_cond_false (FF2.ev 0 rfl) ?_
 refine wp_skip ?_
 refine tN ?_
 refine wp_seq (rg_c FF2 MM2 [(1,n_ (.slice none n n) (.cells (cn .u8 (List.replicate n 0)) 5))] 6 [] [] (⟨(make_ok (t:=77) (e:=5) (p:=(.tmp 16)) (q:=(.tmp 16)) (by kernel_rfl) rfl rfl Tryz.underlying77 (by kernel_rfl) (by have:=hn;omega)),fun bo=>fun _ _ FF3 MM3=>tN ?_⟩))
 refine wp_mid (fun a' w'=>Fr 42 a' [(5,.slice (some ⟨bo,0,none⟩) n n),(4,sB []),(0,pT g),(1,iN n)]∧MemS (fun k=>k<w0.heap.size∧∀x∈(g,oC #[sB X,iN u] 119)::([]:Blks),x.1≠k) w0 w' ((bo,.cells (cn .u8 (takN n X)) 5)::(g,oC #[sB (X.drop n),iN u] 119)::([]:Blks)) []) ?_ ?_
 ·skip
  refine draw_open (N:=15) (by kernel_rfl) (by kernel_rfl) MM3 fun wq4 (MM5:MemS (fun k=>k<w0.heap.size∧∀x∈(g,oC #[sB X,iN u] 119)::([]:Blks),x.1≠k) w0 wq4 ((bo,.cells (cn .u8 (List.replicate n 0)) 5)::(g,oC #[sB X,iN u] 119)::([]:Blks)) [])=>?_
  refine take_op FF3 (i:=0) (oi:=(opAt Tryz.f113 4 0)) (v:=(pT g)) (d:=18) (by kernel_rfl) (by kernel_rfl) (by kernel_rfl) (by kernel_rfl) (fun _ _ _ _ _ h=>h) (by kernel_rfl) (by decide) (by kernel_rfl) (mvV (x:=(.tmp 0)) (by kernel_rfl) rfl) fun _ FF6=>?_
  refine take_op FF6 (i:=1) (oi:=(opAt Tryz.f113 4 1)) (v:=(pT g)) (d:=19) (by kernel_rfl) (by kernel_rfl) (by kernel_rfl) (by kernel_rfl) (fun _ _ _ _ _ h=>h) (by kernel_rfl) (by decide) (by kernel_rfl) (mvV (x:=(.tmp 0)) (by kernel_rfl) rfl) fun _ FF7=>?_
  refine take_op FF7 (i:=2) (oi:=(opAt Tryz.f113 4 2)) (v:=(pT g)) (d:=20) (by kernel_rfl) (by kernel_rfl) (by kernel_rfl) (by kernel_rfl) (fun _ _ _ _ _ h=>h) (by kernel_rfl) (by decide) (by kernel_rfl) (nilV (x:=(.tmp 19)) (by kernel_rfl) rfl) fun _ FF8=>?_
  refine take_op FF8 (i:=3) (oi:=(opAt Tryz.f113 4 3)) (v:=(pT g)) (d:=21) (by kernel_rfl) (by kernel_rfl) (by kernel_rfl) (by kernel_rfl) (fun _ _ _ _ _ h=>h) (by kernel_rfl) (by decide) (by kernel_rfl) (fldV (x:=(.tmp 20)) (t:=119) (k:=0) (cs:=[]) (by kernel_rfl) rfl (by kernel_rfl)) fun _ FF9=>?_
  refine take_op FF9 (i:=5) (oi:=(opAt Tryz.f113 4 5)) (v:=(.slice (some ⟨bo,0,none⟩) n n)) (d:=23) (by kernel_rfl) (by kernel_rfl) (by kernel_rfl) (by kernel_rfl) (fun _ _ _ _ _ h=>h) (by kernel_rfl) (by decide) (by kernel_rfl) (mvV (x:=(.tmp 5)) (by kernel_rfl) rfl) fun _ FF10=>?_
  refine take_op FF10 (i:=6) (oi:=(opAt Tryz.f113 4 6)) (v:=(pT g)) (d:=24) (by kernel_rfl) (by kernel_rfl) (by kernel_rfl) (by kernel_rfl) (fun _ _ _ _ _ h=>h) (by kernel_rfl) (by decide) (by kernel_rfl) (mvV (x:=(.tmp 0)) (by kernel_rfl) rfl) fun _ FF11=>?_
  refine take_op FF11 (i:=7) (oi:=(opAt Tryz.f113 4 7)) (v:=(pT g)) (d:=25) (by kernel_rfl) (by kernel_rfl) (by kernel_rfl) (by kernel_rfl) (fun _ _ _ _ _ h=>h) (by kernel_rfl) (by decide) (by kernel_rfl) (nilV (x:=(.tmp 24)) (by kernel_rfl) rfl) fun _ FF12=>?_
  refine take_op FF12 (i:=8) (oi:=(opAt Tryz.f113 4 8)) (v:=(pT g)) (d:=26) (by kernel_rfl) (by kernel_rfl) (by kernel_rfl) (by kernel_rfl) (fun _ _ _ _ _ h=>h) (by kernel_rfl) (by decide) (by kernel_rfl) (fldV (x:=(.tmp 25)) (t:=119) (k:=0) (cs:=[]) (by kernel_rfl) rfl (by kernel_rfl)) fun _ FF13=>?_
  refine any_two (i:=4) (oi:=(opAt Tryz.f113 4 4)) (j:=9) (oj:=(opAt Tryz.f113 4 9)) (by kernel_rfl) (by kernel_rfl) (by kernel_rfl) ?_ ?_
  ·skip
   refine rp_c 1 FF13 MM5 [(0,l_ 1 (sB X))] 19 [26,23,22] [] (⟨rfl,rfl,fun _ _ FF14 MM14=>?_⟩)
   refine wpl_nil (onN_n ?_)
   refine any_one (i:=9) (o:=(opAt Tryz.f113 4 9)) (by kernel_rfl) (by kernel_rfl) ?_
   refine rp_c 1 FF14 MM14 [(0,l_ 1 (sB X))] 24 [27] [] (⟨rfl,rfl,fun _ _ FF15 MM15=>?_⟩)
   refine wpl_nil (onN_n ?_)
   refine any_one (i:=10) (o:=(opAt Tryz.f113 4 10)) (by kernel_rfl) (by kernel_rfl) ?_
   refine rp_c 1 FF15 MM15 [(0,r_ (iN (min X.length n)) [(0,.cells (cn .u8 (takN n X)) 5)])] 23 [28] [] (⟨(copyStr_ok (p:=.tmp 23) (q:=.tmp 27) (t:=77) (tq:=9) (e:=5) (T:=5) (off:=0) (len:=n) (X:=X) (cs:=cn .u8 (List.replicate n 0)) (i:=0) (by kernel_rfl) rfl rfl hX Tryz.underlying77 (by kernel_rfl) rfl (by rw [cZ,List.length_replicate,Nat.zero_add];exact Nat.le_refl _) (tak_cells n X)),fun _ _ FF16 MM16=>?_⟩)
   refine wpl_nil (onN_n ?_)
   refine any_one (i:=11) (o:=(opAt Tryz.f113 4 11)) (by kernel_rfl) (by kernel_rfl) ?_
   refine rp_c 1 FF16 MM16 [(0,t_ (sB (X.drop n)))] 19 [29] [] (⟨(by simp only [bs_size];omega),(Nat.zero_le _),(vS2 ((bs_from _ _).trans (congrArg bs (dropX_min X n)))),fun _ _ FF17 MM17=>?_⟩)
   refine wpl_nil (onN_n ?_)
   refine take_op FF17 (i:=12) (oi:=(opAt Tryz.f113 4 12)) (v:=(pT g)) (d:=30) (by kernel_rfl) (by kernel_rfl) (by kernel_rfl) (by kernel_rfl) (fun _ _ _ _ _ h=>h) (by kernel_rfl) (by decide) (by kernel_rfl) (nilV (x:=(.tmp 18)) (by kernel_rfl) rfl) fun _ FF18=>?_
   refine take_op FF18 (i:=13) (oi:=(opAt Tryz.f113 4 13)) (v:=(pT g)) (d:=31) (by kernel_rfl) (by kernel_rfl) (by kernel_rfl) (by kernel_rfl) (fun _ _ _ _ _ h=>h) (by kernel_rfl) (by decide) (by kernel_rfl) (fldV (x:=(.tmp 30)) (t:=119) (k:=0) (cs:=[]) (by kernel_rfl) rfl (by kernel_rfl)) fun _ FF19=>?_
   refine any_one (i:=14) (o:=(opAt Tryz.f113 4 14)) (by kernel_rfl) (by kernel_rfl) ?_
   refine rp_c 1 FF19 MM17 [(0,s_ 1 (oC #[sB (X.drop n),iN u] 119))] 6 [] [] (⟨rfl,(by simp),(.inl rfl),rfl,fun _ _ FF20 MM20=>?_⟩)
   refine wpl_nil (onN_n ?_)
   refine any_none (by kernel_rfl) (tN ?_)
   exact⟨FF20.pick [0,1,2,3],MM20⟩
  ·skip
   refine rp_c 1 FF13 MM5 [(0,l_ 1 (sB X))] 24 [27] [20,19] (⟨rfl,rfl,fun _ _ FF21 MM21=>?_⟩)
   refine wpl_nil (onN_n ?_)
   refine any_two (i:=4) (oi:=(opAt Tryz.f113 4 4)) (j:=10) (oj:=(opAt Tryz.f113 4 10)) (by kernel_rfl) (by kernel_rfl) (by kernel_rfl) ?_ ?_
   ·skip
    refine rp_c 1 FF21 MM21 [(0,l_ 1 (sB X))] 28 [] [21] (⟨rfl,rfl,fun _ _ FF22 MM22=>?_⟩)
    refine wpl_nil (onN_n ?_)
    refine any_one (i:=10) (o:=(opAt Tryz.f113 4 10)) (by kernel_rfl) (by kernel_rfl) ?_
    refine rp_c 1 FF22 MM22 [(0,r_ (iN (min X.length n)) [(0,.cells (cn .u8 (takN n X)) 5)])] 23 [28] [] (⟨(copyStr_ok (p:=.tmp 23) (q:=.tmp 27) (t:=77) (tq:=9) (e:=5) (T:=5) (off:=0) (len:=n) (X:=X) (cs:=cn .u8 (List.replicate n 0)) (i:=0) (by kernel_rfl) rfl rfl hX Tryz.underlying77 (by kernel_rfl) rfl (by rw [cZ,List.length_replicate,Nat.zero_add];exact Nat.le_refl _) (tak_cells n X)),fun _ _ FF23 MM23=>?_⟩)
    refine wpl_nil (onN_n ?_)
    refine any_one (i:=11) (o:=(opAt Tryz.f113 4 11)) (by kernel_rfl) (by kernel_rfl) ?_
    refine rp_c 1 FF23 MM23 [(0,t_ (sB (X.drop n)))] 19 [29] [] (⟨(by simp only [bs_size];omega),(Nat.zero_le _),(vS2 ((bs_from _ _).trans (congrArg bs (dropX_min X n)))),fun _ _ FF24 MM24=>?_⟩)
    refine wpl_nil (onN_n ?_)
    refine take_op FF24 (i:=12) (oi:=(opAt Tryz.f113 4 12)) (v:=(pT g)) (d:=30) (by kernel_rfl) (by kernel_rfl) (by kernel_rfl) (by kernel_rfl) (fun _ _ _ _ _ h=>h) (by kernel_rfl) (by decide) (by kernel_rfl) (nilV (x:=(.tmp 18)) (by kernel_rfl) rfl) fun _ FF25=>?_
    refine take_op FF25 (i:=13) (oi:=(opAt Tryz.f113 4 13)) (v:=(pT g)) (d:=31) (by kernel_rfl) (by kernel_rfl) (by kernel_rfl) (by kernel_rfl) (fun _ _ _ _ _ h=>h) (by kernel_rfl) (by decide) (by kernel_rfl) (fldV (x:=(.tmp 30)) (t:=119) (k:=0) (cs:=[]) (by kernel_rfl) rfl (by kernel_rfl)) fun _ FF26=>?_
    refine any_one (i:=14) (o:=(opAt Tryz.f113 4 14)) (by kernel_rfl) (by kernel_rfl) ?_
    refine rp_c 1 FF26 MM24 [(0,s_ 1 (oC #[sB (X.drop n),iN u] 119))] 6 [] [] (⟨rfl,(by simp),(.inl rfl),rfl,fun _ _ FF27 MM27=>?_⟩)
    refine wpl_nil (onN_n ?_)
    refine any_none (by kernel_rfl) (tN ?_)
    exact⟨FF27.pick [0,1,2,3],MM27⟩
   ·skip
    refine rp_c 1 FF21 MM21 [(0,r_ (iN (min X.length n)) [(0,.cells (cn .u8 (takN n X)) 5)])] 22 [28] [] (⟨(copyStr_ok (p:=.tmp 23) (q:=.tmp 27) (t:=77) (tq:=9) (e:=5) (T:=5) (off:=0) (len:=n) (X:=X) (cs:=cn .u8 (List.replicate n 0)) (i:=0) (by kernel_rfl) rfl rfl hX Tryz.underlying77 (by kernel_rfl) rfl (by rw [cZ,List.length_replicate,Nat.zero_add];exact Nat.le_refl _) (tak_cells n X)),fun _ _ FF28 MM28=>?_⟩)
    refine wpl_nil (onN_n ?_)
    refine any_one (i:=4) (o:=(opAt Tryz.f113 4 4)) (by kernel_rfl) (by kernel_rfl) ?_
    refine rp_c 1 FF28 MM28 [(0,l_ 1 (sB X))] 29 [] [21] (⟨rfl,rfl,fun _ _ FF29 MM29=>?_⟩)
    refine wpl_nil (onN_n ?_)
    refine any_one (i:=11) (o:=(opAt Tryz.f113 4 11)) (by kernel_rfl) (by kernel_rfl) ?_
    refine rp_c 1 FF29 MM29 [(0,t_ (sB (X.drop n)))] 19 [29] [] (⟨(by simp only [bs_size];omega),(Nat.zero_le _),(vS2 ((bs_from _ _).trans (congrArg bs (dropX_min X n)))),fun _ _ FF30 MM30=>?_⟩)
    refine wpl_nil (onN_n ?_)
    refine take_op FF30 (i:=12) (oi:=(opAt Tryz.f113 4 12)) (v:=(pT g)) (d:=30) (by kernel_rfl) (by kernel_rfl) (by kernel_rfl) (by kernel_rfl) (fun _ _ _ _ _ h=>h) (by kernel_rfl) (by decide) (by kernel_rfl) (nilV (x:=(.tmp 18)) (by kernel_rfl) rfl) fun _ FF31=>?_
    refine take_op FF31 (i:=13) (oi:=(opAt Tryz.f113 4 13)) (v:=(pT g)) (d:=31) (by kernel_rfl) (by kernel_rfl) (by kernel_rfl) (by kernel_rfl) (fun _ _ _ _ _ h=>h) (by kernel_rfl) (by decide) (by kernel_rfl) (fldV (x:=(.tmp 30)) (t:=119) (k:=0) (cs:=[]) (by kernel_rfl) rfl (by kernel_rfl)) fun _ FF32=>?_
    refine any_one (i:=14) (o:=(opAt Tryz.f113 4 14)) (by kernel_rfl) (by kernel_rfl) ?_
    refine rp_c 1 FF32 MM30 [(0,s_ 1 (oC #[sB (X.drop n),iN u] 119))] 6 [] [] (⟨rfl,(by simp),(.inl rfl),rfl,fun _ _ FF33 MM33=>?_⟩)
    refine wpl_nil (onN_n ?_)
    refine any_none (by kernel_rfl) (tN ?_)
    exact⟨FF33.pick [0,1,2,3],MM33⟩
 ·rintro ac34 wd34 ⟨FF34,MM34⟩
  refine wp_seq (rg_c FF34 MM34 [(3,l_ 1 (iN u)),(4,s_ 1 (oC #[sB (X.drop n),iN (u+n)] 119))] 6 [] [] (⟨rfl,rfl,(by have:=hn;omega),rfl,(by simp),(.inl rfl),rfl,fun _ _ FF35 MM35=>tN ?_⟩))
  refine wp_seq (rg_c FF35 MM35 [(1,l_ 0 (sB (takN n X)))] 6 [] [] (⟨rfl,(str_all (takN_len _ _) (takN_lt hX n)),fun _ _ FF36 MM36=>tN ?_⟩))
  refine wp_ret ?_
  repeat first | refine tR ?_ | refine iR ?_
  exact(ret_fr FF36 0 Tryz.results113 rfl ⟨rfl,MM36.turn (O:=[]) (fun i x hx=>by simp at hx) 1 rfl (fun x hx=>(nomatch hx))⟩)
theorem take_nil (z:Int)(w0:World) :
  Calls Tryz.prog 113 #[.pointer none,.int .i64 z] w0 fun e w'=>e=.returned (sB [])∧Below w0.heap.size w0 w':=by
 refine eF Tryz.func113 rfl Tryz.ntmps113 (by simp) fun ac (FF:Fr 42 ac [(0,.pointer none),(1,.int .i64 (z:Int))])=>?_
 have MM:=MemS.start w0
 refine wp_seq (rg_c FF MM [(0,t_ (sB []))] 5 [] [] (⟨(by kernel_rfl),fun _ _ FF1 MM1=>tN ?_⟩))
 refine wp_seq ?_
 refine wp_seq (rg_c FF1 MM1 [(1,f_ (.bool true))] 5 [15] [] (⟨(ptrNil_ok (t:=32) (t':=32) (x:=(.tmp 6)) (y:=(.const (.pointer none))) (by kernel_rfl) rfl rfl Tryz.underlying32),fun _ _ FF2 MM2=>tN ?_⟩))
 refine wp_cond_true (FF2.ev 0 rfl) ?_
 refine wp_seq (rg_c FF2 MM2 [(0,t_ (sB []))] 5 [] [] (⟨(by kernel_rfl),fun _ _ FF3 MM3=>tN ?_⟩))
 refine wp_ret ?_
 repeat first | refine tR ?_ | refine iR ?_
 exact(ret_fr FF3 0 Tryz.results113 rfl ⟨rfl,MM3.below⟩)
theorem turn_below {w w':World}{g:Nat}{ob:Obj}(hg:w.heap[g]? = some ob)(t:Turn g ob w w'):Below w.heap.size w w':=⟨t.os,t.tape,t.output,t.size,fun k hk=>by
 by_cases e:k=g
 ·subst e;exact t.now.trans hg.symm
 ·exact t.block k hk e⟩
theorem tkey_any (g:Nat)(X:List Nat)(u:Nat)(hX:∀i,X.getD i 0<256)(hu:u<4611686018427387904)  (w0:World)(hg:w0.heap[g]? = some (TB X u)) :
  Calls Tryz.prog 79 #[pT g] w0 fun e w'=>e=.returned (.agg (cn .u8 (takN 32 X)))∧Turn g (TB (X.drop 32) (u+32)) w0 w':=by
 refine eF Tryz.func79 rfl Tryz.ntmps79 (by simp) fun ac (FF:Fr 9 ac [(0,pT g)])=>?_
 have MM:MemS (fun k=>k<w0.heap.size∧∀x∈(g,oC #[sB X,iN u] 119)::([]:Blks),x.1≠k) w0 w0 ((g,oC #[sB X,iN u] 119)::([]:Blks)) []:=MemS.startN (one_has hg) ⟨fun y hy=>(nomatch hy),trivial⟩
 refine wp_seq (rg_c FF MM [(0,s_ 0 (.cells (cn .u8 (List.replicate 32 0)) 52))] 3 [] [] (⟨(by kernel_rfl),fun br=>fun _ _ FF1 MM1=>tN ?_⟩))
 refine wp_seq (rg_c FF1 MM1 [(0,s_ 0 (.cells (cn .u8 (List.replicate 32 0)) 52))] 4 [] [] (⟨(by kernel_rfl),fun bk=>fun _ _ FF2 MM2=>tN ?_⟩))
 refine wp_mid (fun a' w'=>Fr 9 a' [(3,pT bk),(2,pT br)]∧MemS (fun k=>k<w0.heap.size∧∀x∈(g,oC #[sB X,iN u] 119)::([]:Blks),x.1≠k) w0 w' ((bk,.cells (cn .u8 (takN 32 X)) 52)::(br,.cells (cn .u8 (List.replicate 32 0)) 52)::(g,oC #[sB (X.drop 32),iN (u+32)] 119)::([]:Blks)) []) ?_ ?_
 ·skip
  refine draw_open (N:=4) (by kernel_rfl) (by kernel_rfl) MM2 fun wq3 (MM4:MemS (fun k=>k<w0.heap.size∧∀x∈(g,oC #[sB X,iN u] 119)::([]:Blks),x.1≠k) w0 wq3 ((bk,.cells (cn .u8 (List.replicate 32 0)) 52)::(br,.cells (cn .u8 (List.replicate 32 0)) 52)::(g,oC #[sB X,iN u] 119)::([]:Blks)) [])=>?_
  refine take_op FF2 (i:=1) (oi:=(opAt Tryz.f79 2 1)) (v:=(pT g)) (d:=5) (by kernel_rfl) (by kernel_rfl) (by kernel_rfl) (by kernel_rfl) (fun _ _ _ _ _ h=>h) (by kernel_rfl) (by decide) (by kernel_rfl) (mvV (x:=(.tmp 0)) (by kernel_rfl) rfl) fun _ FF5=>?_
  refine any_two (i:=0) (oi:=(opAt Tryz.f79 2 0)) (j:=2) (oj:=(opAt Tryz.f79 2 2)) (by kernel_rfl) (by kernel_rfl) (by kernel_rfl) ?_ ?_
  ·skip
   refine rp_c 1 FF5 MM4 [] 6 [] [0] (⟨by decide,by decide,by decide,fun _ _ FF6 MM6=>?_⟩)
   refine wpl_nil (onN_n ?_)
   refine any_one (i:=2) (o:=(opAt Tryz.f79 2 2)) (by kernel_rfl) (by kernel_rfl) ?_
   refine rp_c 1 FF6 MM6 [(0,c_ (sB (takN 32 X)) [(2,oC #[sB (X.drop 32),iN (u+32)] 119)])] 5 [6] [] (⟨(callU_turn en_take (g:=g) (ob:=TB X u) rfl fun w hg=>by have h0:=take_any g 32 X u hX (by omega) (by decide) w hg;exact h0),fun _ _ FF7 MM7=>?_⟩)
   refine wpl_nil (onN_n ?_)
   refine any_one (i:=3) (o:=(opAt Tryz.f79 2 3)) (by kernel_rfl) (by kernel_rfl) ?_
   refine rp_c 1 FF7 MM7 [(0,r_ (iN (min (takN 32 X).length 32)) [(0,.cells (cn .u8 (takN 32 X)) 52)])] 4 [] [] (⟨(copyStr_ok (p:=.tmp 4) (q:=.tmp 6) (t:=77) (tq:=9) (e:=5) (T:=52) (off:=0) (len:=32) (X:=takN 32 X) (cs:=cn .u8 (List.replicate 32 0)) (i:=0) (by kernel_rfl) rfl rfl (takN_lt hX 32) Tryz.underlying77 (by kernel_rfl) rfl (by rw [cZ,List.length_replicate];decide) (by rw [List.take_of_length_le (by rw [takN_len];decide)];exact setFrom_new8 (by rw [List.length_replicate,takN_len]))),fun _ _ FF8 MM8=>?_⟩)
   refine wpl_nil (onN_n ?_)
   refine any_none (by kernel_rfl) (tN ?_)
   exact⟨FF8.pick [0,1],MM8⟩
  ·skip
   refine rp_c 1 FF5 MM4 [(0,c_ (sB (takN 32 X)) [(2,oC #[sB (X.drop 32),iN (u+32)] 119)])] 4 [6] [0] (⟨(callU_turn en_take (g:=g) (ob:=TB X u) rfl fun w hg=>by have h0:=take_any g 32 X u hX (by omega) (by decide) w hg;exact h0),fun _ _ FF9 MM9=>?_⟩)
   refine wpl_nil (onN_n ?_)
   refine any_one (i:=0) (o:=(opAt Tryz.f79 2 0)) (by kernel_rfl) (by kernel_rfl) ?_
   refine rp_c 1 FF9 MM9 [] 7 [] [] (⟨by decide,by decide,by decide,fun _ _ FF10 MM10=>?_⟩)
   refine wpl_nil (onN_n ?_)
   refine any_one (i:=3) (o:=(opAt Tryz.f79 2 3)) (by kernel_rfl) (by kernel_rfl) ?_
   refine rp_c 1 FF10 MM10 [(0,r_ (iN (min (takN 32 X).length 32)) [(0,.cells (cn .u8 (takN 32 X)) 52)])] 4 [] [] (⟨(copyStr_ok (p:=.tmp 4) (q:=.tmp 6) (t:=77) (tq:=9) (e:=5) (T:=52) (off:=0) (len:=32) (X:=takN 32 X) (cs:=cn .u8 (List.replicate 32 0)) (i:=0) (by kernel_rfl) rfl rfl (takN_lt hX 32) Tryz.underlying77 (by kernel_rfl) rfl (by rw [cZ,List.length_replicate];decide) (by rw [List.take_of_length_le (by rw [takN_len];decide)];exact setFrom_new8 (by rw [List.length_replicate,takN_len]))),fun _ _ FF11 MM11=>?_⟩)
   refine wpl_nil (onN_n ?_)
   refine any_none (by kernel_rfl) (tN ?_)
   exact⟨FF11.pick [0,1],MM11⟩
 ·rintro ac12 wd12 ⟨FF12,MM12⟩
  refine wp_seq (rg_c FF12 MM12 [(0,b_ 0),(0,b_ 1)] 4 [] [] (⟨rfl,((cZ _ _).trans (takN_len _ _)),rfl,((cZ _ _).trans (List.length_replicate ..)),((cZ _ _).trans (takN_len _ _)),(cn_one _ _),rfl,fun _ _ FF13 MM13=>tN ?_⟩))
  refine wp_ret ?_
  repeat first | refine tR ?_ | refine iR ?_
  exact(retc FF13 MM13 (k:=32) (i:=1) (j:=1) Tryz.results79 rfl rfl Tryz.underlying52 rfl (by kernel_rfl) ((cZ _ _).trans (takN_len _ _)) ⟨rfl,MM13.turn (O:=[]) (fun i x hx=>by simp at hx) 2 rfl (fun x hx=>(nomatch hx))⟩)
theorem tkey_nil  (w0:World) :
  Calls Tryz.prog 79 #[.pointer none] w0 fun e w'=>e=.returned (.agg (cn .u8 (List.replicate 32 0)))∧Below w0.heap.size w0 w':=by
 refine eF Tryz.func79 rfl Tryz.ntmps79 (by simp) fun ac (FF:Fr 9 ac [(0,.pointer none)])=>?_
 have MM:=MemS.start w0
 refine wp_seq (rg_c FF MM [(0,s_ 0 (.cells (cn .u8 (List.replicate 32 0)) 52))] 3 [] [] (⟨(by kernel_rfl),fun br=>fun _ _ FF1 MM1=>tN ?_⟩))
 refine wp_seq (rg_c FF1 MM1 [(0,s_ 0 (.cells (cn .u8 (List.replicate 32 0)) 52))] 4 [] [] (⟨(by kernel_rfl),fun bk=>fun _ _ FF2 MM2=>tN ?_⟩))
 refine wp_seq (rg_dc 3 FF2 MM2 [(2,t_ (sB []))] [(0,r_ (iN (min ([]:List Nat).length 32)) [(0,.cells (cn .u8 (List.replicate 32 0)) 52)])] 4 [] [0] (⟨by decide,by decide,by decide,(cP en_take (take_nil ((32:Nat):Int)) _),(copyStr_ok (p:=.tmp 4) (q:=.tmp 6) (t:=77) (tq:=9) (e:=5) (T:=52) (off:=0) (len:=32) (X:=[]) (cs:=cn .u8 (List.replicate 32 0)) (i:=0) (by kernel_rfl) rfl rfl (lit_lt (by kernel_rfl)) Tryz.underlying77 (by kernel_rfl) rfl (by rw [cZ,List.length_replicate];decide) rfl),fun _ _ FF3 MM3=>tN ?_⟩))
 refine wp_seq (rg_c FF3 MM3 [(0,b_ 0),(0,b_ 1)] 4 [] [] (⟨rfl,((cZ _ _).trans (List.length_replicate ..)),rfl,((cZ _ _).trans (List.length_replicate ..)),((cZ _ _).trans (List.length_replicate ..)),(cn_one _ _),rfl,fun _ _ FF4 MM4=>tN ?_⟩))
 refine wp_ret ?_
 repeat first | refine tR ?_ | refine iR ?_
 exact(retc FF4 MM4 (k:=32) (i:=1) (j:=1) Tryz.results79 rfl rfl Tryz.underlying52 rfl (by kernel_rfl) ((cZ _ _).trans (List.length_replicate ..)) ⟨rfl,MM4.below⟩)
theorem tid_any (g:Nat)(X:List Nat)(u:Nat)(hX:∀i,X.getD i 0<256)(hu:u<4611686018427387904)  (w0:World)(hg:w0.heap[g]? = some (TB X u)) :
  Calls Tryz.prog 77 #[pT g] w0 fun e w'=>e=.returned (.agg (cn .u8 (takN 16 X)))∧Turn g (TB (X.drop 16) (u+16)) w0 w':=by
 refine eF Tryz.func77 rfl Tryz.ntmps77 (by simp) fun ac (FF:Fr 9 ac [(0,pT g)])=>?_
 have MM:MemS (fun k=>k<w0.heap.size∧∀x∈(g,oC #[sB X,iN u] 119)::([]:Blks),x.1≠k) w0 w0 ((g,oC #[sB X,iN u] 119)::([]:Blks)) []:=MemS.startN (one_has hg) ⟨fun y hy=>(nomatch hy),trivial⟩
 refine wp_seq (rg_c FF MM [(0,s_ 0 (.cells (cn .u8 (List.replicate 16 0)) 95))] 3 [] [] (⟨(by kernel_rfl),fun br=>fun _ _ FF1 MM1=>tN ?_⟩))
 refine wp_seq (rg_c FF1 MM1 [(0,s_ 0 (.cells (cn .u8 (List.replicate 16 0)) 95))] 4 [] [] (⟨(by kernel_rfl),fun bk=>fun _ _ FF2 MM2=>tN ?_⟩))
 refine wp_mid (fun a' w'=>Fr 9 a' [(3,pT bk),(2,pT br)]∧MemS (fun k=>k<w0.heap.size∧∀x∈(g,oC #[sB X,iN u] 119)::([]:Blks),x.1≠k) w0 w' ((bk,.cells (cn .u8 (takN 16 X)) 95)::(br,.cells (cn .u8 (List.replicate 16 0)) 95)::(g,oC #[sB (X.drop 16),iN (u+16)] 119)::([]:Blks)) []) ?_ ?_
 ·skip
  refine draw_open (N:=4) (by kernel_rfl) (by kernel_rfl) MM2 fun wq3 (MM4:MemS (fun k=>k<w0.heap.size∧∀x∈(g,oC #[sB X,iN u] 119)::([]:Blks),x.1≠k) w0 wq3 ((bk,.cells (cn .u8 (List.replicate 16 0)) 95)::(br,.cells (cn .u8 (List.replicate 16 0)) 95)::(g,oC #[sB X,iN u] 119)::([]:Blks)) [])=>?_
  refine take_op FF2 (i:=1) (oi:=(opAt Tryz.f77 2 1)) (v:=(pT g)) (d:=5) (by kernel_rfl) (by kernel_rfl) (by kernel_rfl) (by kernel_rfl) (fun _ _ _ _ _ h=>h) (by kernel_rfl) (by decide) (by kernel_rfl) (mvV (x:=(.tmp 0)) (by kernel_rfl) rfl) fun _ FF5=>?_
  refine any_two (i:=0) (oi:=(opAt Tryz.f77 2 0)) (j:=2) (oj:=(opAt Tryz.f77 2 2)) (by kernel_rfl) (by kernel_rfl) (by kernel_rfl) ?_ ?_
  ·skip
   refine rp_c 1 FF5 MM4 [] 6 [] [0] (⟨by decide,by decide,by decide,fun _ _ FF6 MM6=>?_⟩)
   refine wpl_nil (onN_n ?_)
   refine any_one (i:=2) (o:=(opAt Tryz.f77 2 2)) (by kernel_rfl) (by kernel_rfl) ?_
   refine rp_c 1 FF6 MM6 [(0,c_ (sB (takN 16 X)) [(2,oC #[sB (X.drop 16),iN (u+16)] 119)])] 5 [6] [] (⟨(callU_turn en_take (g:=g) (ob:=TB X u) rfl fun w hg=>by have h0:=take_any g 16 X u hX (by omega) (by decide) w hg;exact h0),fun _ _ FF7 MM7=>?_⟩)
   refine wpl_nil (onN_n ?_)
   refine any_one (i:=3) (o:=(opAt Tryz.f77 2 3)) (by kernel_rfl) (by kernel_rfl) ?_
   refine rp_c 1 FF7 MM7 [(0,r_ (iN (min (takN 16 X).length 16)) [(0,.cells (cn .u8 (takN 16 X)) 95)])] 4 [] [] (⟨(copyStr_ok (p:=.tmp 4) (q:=.tmp 6) (t:=77) (tq:=9) (e:=5) (T:=95) (off:=0) (len:=16) (X:=takN 16 X) (cs:=cn .u8 (List.replicate 16 0)) (i:=0) (by kernel_rfl) rfl rfl (takN_lt hX 16) Tryz.underlying77 (by kernel_rfl) rfl (by rw [cZ,List.length_replicate];decide) (by rw [List.take_of_length_le (by rw [takN_len];decide)];exact setFrom_new8 (by rw [List.length_replicate,takN_len]))),fun _ _ FF8 MM8=>?_⟩)
   refine wpl_nil (onN_n ?_)
   refine any_none (by kernel_rfl) (tN ?_)
   exact⟨FF8.pick [0,1],MM8⟩
  ·skip
   refine rp_c 1 FF5 MM4 [(0,c_ (sB (takN 16 X)) [(2,oC #[sB (X.drop 16),iN (u+16)] 119)])] 4 [6] [0] (⟨(callU_turn en_take (g:=g) (ob:=TB X u) rfl fun w hg=>by have h0:=take_any g 16 X u hX (by omega) (by decide) w hg;exact h0),fun _ _ FF9 MM9=>?_⟩)
   refine wpl_nil (onN_n ?_)
   refine any_one (i:=0) (o:=(opAt Tryz.f77 2 0)) (by kernel_rfl) (by kernel_rfl) ?_
   refine rp_c 1 FF9 MM9 [] 7 [] [] (⟨by decide,by decide,by decide,fun _ _ FF10 MM10=>?_⟩)
   refine wpl_nil (onN_n ?_)
   refine any_one (i:=3) (o:=(opAt Tryz.f77 2 3)) (by kernel_rfl) (by kernel_rfl) ?_
   refine rp_c 1 FF10 MM10 [(0,r_ (iN (min (takN 16 X).length 16)) [(0,.cells (cn .u8 (takN 16 X)) 95)])] 4 [] [] (⟨(copyStr_ok (p:=.tmp 4) (q:=.tmp 6) (t:=77) (tq:=9) (e:=5) (T:=95) (off:=0) (len:=16) (X:=takN 16 X) (cs:=cn .u8 (List.replicate 16 0)) (i:=0) (by kernel_rfl) rfl rfl (takN_lt hX 16) Tryz.underlying77 (by kernel_rfl) rfl (by rw [cZ,List.length_replicate];decide) (by rw [List.take_of_length_le (by rw [takN_len];decide)];exact setFrom_new8 (by rw [List.length_replicate,takN_len]))),fun _ _ FF11 MM11=>?_⟩)
   refine wpl_nil (onN_n ?_)
   refine any_none (by kernel_rfl) (tN ?_)
   exact⟨FF11.pick [0,1],MM11⟩
 ·rintro ac12 wd12 ⟨FF12,MM12⟩
  refine wp_seq (rg_c FF12 MM12 [(0,b_ 0),(0,b_ 1)] 4 [] [] (⟨rfl,((cZ _ _).trans (takN_len _ _)),rfl,((cZ _ _).trans (List.length_replicate ..)),((cZ _ _).trans (takN_len _ _)),(cn_one _ _),rfl,fun _ _ FF13 MM13=>tN ?_⟩))
  refine wp_ret ?_
  repeat first | refine tR ?_ | refine iR ?_
  exact(retc FF13 MM13 (k:=16) (i:=1) (j:=1) Tryz.results77 rfl rfl Tryz.underlying95 rfl (by kernel_rfl) ((cZ _ _).trans (takN_len _ _)) ⟨rfl,MM13.turn (O:=[]) (fun i x hx=>by simp at hx) 2 rfl (fun x hx=>(nomatch hx))⟩)
theorem tid_nil  (w0:World) :
  Calls Tryz.prog 77 #[.pointer none] w0 fun e w'=>e=.returned (.agg (cn .u8 (List.replicate 16 0)))∧Below w0.heap.size w0 w':=by
 refine eF Tryz.func77 rfl Tryz.ntmps77 (by simp) fun ac (FF:Fr 9 ac [(0,.pointer none)])=>?_
 have MM:=MemS.start w0
 refine wp_seq (rg_c FF MM [(0,s_ 0 (.cells (cn .u8 (List.replicate 16 0)) 95))] 3 [] [] (⟨(by kernel_rfl),fun br=>fun _ _ FF1 MM1=>tN ?_⟩))
 refine wp_seq (rg_c FF1 MM1 [(0,s_ 0 (.cells (cn .u8 (List.replicate 16 0)) 95))] 4 [] [] (⟨(by kernel_rfl),fun bk=>fun _ _ FF2 MM2=>tN ?_⟩))
 refine wp_seq (rg_dc 3 FF2 MM2 [(2,t_ (sB []))] [(0,r_ (iN (min ([]:List Nat).length 16)) [(0,.cells (cn .u8 (List.replicate 16 0)) 95)])] 4 [] [0] (⟨by decide,by decide,by decide,(cP en_take (take_nil ((16:Nat):Int)) _),(copyStr_ok (p:=.tmp 4) (q:=.tmp 6) (t:=77) (tq:=9) (e:=5) (T:=95) (off:=0) (len:=16) (X:=[]) (cs:=cn .u8 (List.replicate 16 0)) (i:=0) (by kernel_rfl) rfl rfl (lit_lt (by kernel_rfl)) Tryz.underlying77 (by kernel_rfl) rfl (by rw [cZ,List.length_replicate];decide) rfl),fun _ _ FF3 MM3=>tN ?_⟩))
 refine wp_seq (rg_c FF3 MM3 [(0,b_ 0),(0,b_ 1)] 4 [] [] (⟨rfl,((cZ _ _).trans (List.length_replicate ..)),rfl,((cZ _ _).trans (List.length_replicate ..)),((cZ _ _).trans (List.length_replicate ..)),(cn_one _ _),rfl,fun _ _ FF4 MM4=>tN ?_⟩))
 refine wp_ret ?_
 repeat first | refine tR ?_ | refine iR ?_
 exact(retc FF4 MM4 (k:=16) (i:=1) (j:=1) Tryz.results77 rfl rfl Tryz.underlying95 rfl (by kernel_rfl) ((cZ _ _).trans (List.length_replicate ..)) ⟨rfl,MM4.below⟩)
theorem en_crotl:Enters Tryz.prog 202:=fun args w=>by simp [go_sem]
theorem en_quarter:Enters Tryz.prog 193:=fun args w=>by simp [go_sem]
theorem en_cword:Enters Tryz.prog 169:=fun args w=>by simp [go_sem]
theorem en_laid:Enters Tryz.prog 140:=fun args w=>by simp [go_sem]
theorem en_stirred:Enters Tryz.prog 170:=fun args w=>by simp [go_sem]
theorem en_cblk:Enters Tryz.prog 142:=fun args w=>by simp [go_sem]
theorem en_cturn:Enters Tryz.prog 141:=fun args w=>by simp [go_sem]
theorem en_left:Enters Tryz.prog 198:=fun args w=>by simp [go_sem]
theorem en_rquarter:Enters Tryz.prog 182:=fun args w=>by simp [go_sem]
theorem en_four:Enters Tryz.prog 181:=fun args w=>by simp [go_sem]
theorem en_rBlock:Enters Tryz.prog 152:=fun args w=>by simp [go_sem]
theorem en_rMask:Enters Tryz.prog 122:=fun args w=>by simp [go_sem]
theorem crotl_w (x n:Nat)(hx:x<4294967296)(h0:0<n)(hn:n<32)(w0:World) :
  Calls Tryz.prog 202 #[.int .u32 (x:Nat),iN n] w0 fun e w'=>e=.returned (.int .u32 (rN (2^n) (2^(32-n)) x:Nat))∧Below w0.heap.size w0 w':=by
 refine eF Tryz.func202 rfl Tryz.ntmps202 (by simp) fun ac (FF:Fr 17 ac [(0,.int .u32 (x:Nat)),(1,iN n)])=>?_
 have MM:=MemS.start w0
 refine wp_seq (rg_c FF MM [] 5 [] [] (fun _ _ FF1 MM1=>tN ?_))
 refine wp_seq (rg_c FF1 MM1 [(2,t_ (iW n))] 6 [] [1] (⟨(by have:=h0;have:=hn;omega),by decide,(vI ((and_low 5 _).trans (by omega))),fun _ _ FF2 MM2=>tN ?_⟩))
 refine wp_seq (rg_c FF2 MM2 [(5,u_ 1 (iW (32-n))),(1,t_ (.int .u32 (rN (2^n) (2^(32-n)) x:Nat)))] 0 [4] [] (⟨by omega,by omega,rfl,(by show _≤32;have:=hx;omega),(Nat.mod_lt _ (by decide)),(Nat.lt_of_le_of_lt (Nat.div_le_self _ _) hx),rfl,fun _ _ FF3 MM3=>tN ?_⟩))
 refine wp_ret ?_
 repeat first | refine tR ?_ | refine iR ?_
 exact(ret_fr FF3 0 Tryz.results202 rfl ⟨rfl,MM3.below⟩)
theorem left_w (x n:Nat)(hx:x<4294967296)(h0:0<n)(hn:n<32)(w0:World) :
  Calls Tryz.prog 198 #[.int .u32 (x:Nat),.int .u32 (n:Nat)] w0 fun e w'=>e=.returned (.int .u32 (rN (2^n) (2^(32-n)) x:Nat))∧Below w0.heap.size w0 w':=by
 refine eF Tryz.func198 rfl Tryz.ntmps198 (by simp) fun ac (FF:Fr 13 ac [(0,.int .u32 (x:Nat)),(1,.int .u32 (n:Nat))])=>?_
 have MM:=MemS.start w0
 refine wp_seq (rg_c FF MM [] 5 [] [] (fun _ _ FF1 MM1=>tN ?_))
 refine wp_seq (rg_c FF1 MM1 [(5,u_ 1 (.int .u32 (32-n:Nat))),(1,t_ (.int .u32 (rN (2^n) (2^(32-n)) x:Nat)))] 0 [4] [] (⟨(by have:=h0;have:=hn;omega),(by have:=h0;have:=hn;omega),rfl,(by show _≤32;have:=hx;omega),(Nat.mod_lt _ (by decide)),(Nat.lt_of_le_of_lt (Nat.div_le_self _ _) hx),rfl,fun _ _ FF2 MM2=>tN ?_⟩))
 refine wp_ret ?_
 repeat first | refine tR ?_ | refine iR ?_
 exact(ret_fr FF2 0 Tryz.results198 rfl ⟨rfl,MM2.below⟩)
theorem crotl_any (x n m d:Nat)(hx:x<4294967296)(h0:0<n)(hn:n<32)(hm:2^n=m)(hd:2^(32-n)=d)(w:World):Calls Tryz.prog 202 #[.int .u32 (x:Nat),iN n] w fun e w'=>e=.returned (.int .u32 (rN m d x:Nat))∧Below w.heap.size w w':=by
 subst hm hd
 exact crotl_w x n hx h0 hn w
theorem left_any (x n m d:Nat)(hx:x<4294967296)(h0:0<n)(hn:n<32)(hm:2^n=m)(hd:2^(32-n)=d)(w:World):Calls Tryz.prog 198 #[.int .u32 (x:Nat),.int .u32 (n:Nat)] w fun e w'=>e=.returned (.int .u32 (rN m d x:Nat))∧Below w.heap.size w w':=by
 subst hm hd
 exact left_w x n hx h0 hn w
theorem quarter_any (a b c d:Nat)(hb:b<4294967296)(hd:d<4294967296)(w0:World) :
  Calls Tryz.prog 193 #[.int .u32 (a:Nat),.int .u32 (b:Nat),.int .u32 (c:Nat),.int .u32 (d:Nat)] w0 fun e w'=>e=.returned (.tuple #[.int .u32 ((q4 a b c d).a:Nat),.int .u32 ((q4 a b c d).b:Nat),.int .u32 ((q4 a b c d).c:Nat),.int .u32 ((q4 a b c d).d:Nat)])∧Below w0.heap.size w0 w':=by
 refine eF Tryz.func193 rfl Tryz.ntmps193 (by simp) fun ac (FF:Fr 44 ac [(0,.int .u32 (a:Nat)),(1,.int .u32 (b:Nat)),(2,.int .u32 (c:Nat)),(3,.int .u32 (d:Nat))])=>?_
 have MM:=MemS.start w0
 refine wp_seq (rg_c FF MM [] 12 [] [] (fun _ _ FF1 MM1=>tN ?_))
 obtain⟨a1,ea1⟩:∃z,(a+b)%4294967296=z:=⟨_,rfl⟩
 have ha1:a1<4294967296:=ea1▸(Nat.mod_lt _ (by decide))
 refine wp_seq (rg_c FF1 MM1 [(2,t_ (.int .u32 (a1:Nat)))] 12 [] [] (⟨(vI ea1),fun _ _ FF2 MM2=>tN ?_⟩))
 obtain⟨d1,ed1⟩:∃z,rN 65536 65536 (d ^^^ a1)=z:=⟨_,rfl⟩
 have hd1:d1<4294967296:=ed1▸rN_lt 65536 65536 _ (xor_lt hd ha1)
 refine wp_seq (rg_c FF2 MM2 [(3,t_ (.int .u32 (d1:Nat)))] 12 [] [] (⟨hd,ha1,(by rw [←ed1];exact(cP en_crotl (crotl_any (d ^^^ a1) 16 65536 65536 (xor_lt hd ha1) (by decide) (by decide) rfl rfl) _)),fun _ _ FF3 MM3=>tN ?_⟩))
 obtain⟨c1,ec1⟩:∃z,(c+d1)%4294967296=z:=⟨_,rfl⟩
 have hc1:c1<4294967296:=ec1▸(Nat.mod_lt _ (by decide))
 refine wp_seq (rg_c FF3 MM3 [(2,t_ (.int .u32 (c1:Nat)))] 12 [] [] (⟨(vI ec1),fun _ _ FF4 MM4=>tN ?_⟩))
 obtain⟨b1,eb1⟩:∃z,rN 4096 1048576 (b ^^^ c1)=z:=⟨_,rfl⟩
 have hb1:b1<4294967296:=eb1▸rN_lt 4096 1048576 _ (xor_lt hb hc1)
 refine wp_seq (rg_c FF4 MM4 [(3,t_ (.int .u32 (b1:Nat)))] 12 [] [] (⟨hb,hc1,(by rw [←eb1];exact(cP en_crotl (crotl_any (b ^^^ c1) 12 4096 1048576 (xor_lt hb hc1) (by decide) (by decide) rfl rfl) _)),fun _ _ FF5 MM5=>tN ?_⟩))
 obtain⟨a2,ea2⟩:∃z,(a1+b1)%4294967296=z:=⟨_,rfl⟩
 have ha2:a2<4294967296:=ea2▸(Nat.mod_lt _ (by decide))
 refine wp_seq (rg_c FF5 MM5 [(2,t_ (.int .u32 (a2:Nat)))] 12 [] [] (⟨(vI ea2),fun _ _ FF6 MM6=>tN ?_⟩))
 obtain⟨d2,ed2⟩:∃z,rN 256 16777216 (d1 ^^^ a2)=z:=⟨_,rfl⟩
 have hd2:d2<4294967296:=ed2▸rN_lt 256 16777216 _ (xor_lt hd1 ha2)
 refine wp_seq (rg_c FF6 MM6 [(3,t_ (.int .u32 (d2:Nat)))] 12 [] [] (⟨hd1,ha2,(by rw [←ed2];exact(cP en_crotl (crotl_any (d1 ^^^ a2) 8 256 16777216 (xor_lt hd1 ha2) (by decide) (by decide) rfl rfl) _)),fun _ _ FF7 MM7=>tN ?_⟩))
 obtain⟨c2,ec2⟩:∃z,(c1+d2)%4294967296=z:=⟨_,rfl⟩
 have hc2:c2<4294967296:=ec2▸(Nat.mod_lt _ (by decide))
 refine wp_seq (rg_c FF7 MM7 [(2,t_ (.int .u32 (c2:Nat)))] 12 [] [] (⟨(vI ec2),fun _ _ FF8 MM8=>tN ?_⟩))
 obtain⟨b2,eb2⟩:∃z,rN 128 33554432 (b1 ^^^ c2)=z:=⟨_,rfl⟩
 have hb2:b2<4294967296:=eb2▸rN_lt 128 33554432 _ (xor_lt hb1 hc2)
 refine wp_seq (rg_c FF8 MM8 [(3,t_ (.int .u32 (b2:Nat)))] 12 [] [] (⟨hb1,hc2,(by rw [←eb2];exact(cP en_crotl (crotl_any (b1 ^^^ c2) 7 128 33554432 (xor_lt hb1 hc2) (by decide) (by decide) rfl rfl) _)),fun _ _ FF9 MM9=>tN ?_⟩))
 refine wp_seq (rg_c FF9 MM9 [] 12 [] [] (fun _ _ FF10 MM10=>tN ?_))
 refine wp_ret ?_
 repeat first | refine tR ?_ | refine iR ?_
 exact(ret_tup4 FF10 3 2 1 0 Tryz.results193 rfl rfl rfl rfl ⟨by subst ea1 ed1 ec1 eb1 ea2 ed2 ec2 eb2;rfl,MM10.below⟩)
theorem cword_any (X:List Nat)(hl:X.length=4)(hX:∀i,X.getD i 0<256)(w0:World) :
  Calls Tryz.prog 169 #[.agg (cn .u8 X)] w0 fun e w'=>e=.returned (.int .u32 (cwdL X:Nat))∧Below w0.heap.size w0 w':=by
 refine eF Tryz.func169 rfl Tryz.ntmps169 (by simp) fun ac (FF:Fr 21 ac [(0,.agg (cn .u8 X))])=>?_
 have MM:=MemS.start w0
 have h0:=hX 0
 have h1:=hX 1
 have h2:=hX 2
 have h3:=hX 3
 refine wp_seq (rg_c FF MM [(0,s_ 0 (.cells (cn .u8 X) 271))] 3 [] [0] (⟨(by kernel_rfl),fun b1=>fun _ _ FF1 MM1=>tN ?_⟩))
 refine wp_seq (rg_c FF1 MM1 [(0,w_ 1),(0,l_ 0 (iB (X.getD 0 0))),(0,w_ 1),(0,w_ 1),(0,l_ 0 (iB (X.getD 1 0))),(0,w_ 1),(0,t_ (.int .u32 (X.getD 1 0*256:Nat))),(0,t_ (.int .u32 (X.getD 0 0+X.getD 1 0*256:Nat))),(0,w_ 1),(0,l_ 0 (iB (X.getD 2 0))),(0,w_ 1),(0,t_ (.int .u32 (X.getD 2 0*65536:Nat))),(0,t_ (.int .u32 (X.getD 0 0+X.getD 1 0*256+X.getD 2 0*65536:Nat))),(0,w_ 1),(0,l_ 0 (iB (X.getD 3 0))),(0,w_ 1),(0,t_ (.int .u32 (X.getD 3 0*16777216:Nat))),(0,t_ (.int .u32 (cwdL X:Nat)))] 0 [2] [] (⟨by decide,rfl,(cn_get _ _ _ (by rw [hl];decide)),(by have:=hX 0;omega),by decide,rfl,(cn_get _ _ _ (by rw [hl];decide)),(by have:=hX 1;omega),(vI (Nat.mod_eq_of_lt (by omega))),by omega,by omega,(vI (or_shl 8 h0)),by decide,rfl,(cn_get _ _ _ (by rw [hl];decide)),(by have:=hX 2;omega),(vI (Nat.mod_eq_of_lt (by omega))),by omega,by omega,(vI (or_shl 16 (by omega))),by decide,rfl,(cn_get _ _ _ (by rw [hl];decide)),(by have:=hX 3;omega),(vI (Nat.mod_eq_of_lt (by omega))),by omega,by omega,(vI (cwdL_or hX)),fun _ _ FF2 MM2=>tN ?_⟩))
 refine wp_ret ?_
 repeat first | refine tR ?_ | refine iR ?_
 exact(ret_fr FF2 0 Tryz.results169 rfl ⟨rfl,MM2.below⟩)
theorem four_any (X:List Nat)(hl:X.length=4)(hX:∀i,X.getD i 0<256)(w0:World) :
  Calls Tryz.prog 181 #[sB X] w0 fun e w'=>e=.returned (.int .u32 (cwdL X:Nat))∧Below w0.heap.size w0 w':=by
 refine eF Tryz.func181 rfl Tryz.ntmps181 (by simp) fun ac (FF:Fr 21 ac [(0,sB X)])=>?_
 have MM:=MemS.start w0
 have h0:=hX 0
 have h1:=hX 1
 have h2:=hX 2
 have h3:=hX 3
 refine wp_seq (rg_c FF MM [] 3 [] [] (fun _ _ FF1 MM1=>tN ?_))
 refine wp_seq (rg_dc 19 FF1 MM1 [(1,t_ (iB (X.getD 0 0))),(0,w_ 1),(1,t_ (iB (X.getD 1 0))),(0,w_ 1),(0,t_ (.int .u32 (X.getD 1 0*256:Nat))),(0,t_ (.int .u32 (X.getD 0 0+X.getD 1 0*256:Nat))),(1,t_ (iB (X.getD 2 0))),(0,w_ 1),(0,t_ (.int .u32 (X.getD 2 0*65536:Nat))),(0,t_ (.int .u32 (X.getD 0 0+X.getD 1 0*256+X.getD 2 0*65536:Nat))),(1,t_ (iB (X.getD 3 0))),(0,w_ 1),(0,t_ (.int .u32 (X.getD 3 0*16777216:Nat))),(0,t_ (.int .u32 (cwdL X:Nat)))] [] 0 [2] [] (⟨(by simp only [bs_size];omega),(byte_bs hX _),(by have:=hX 0;omega),(by simp only [bs_size];omega),(byte_bs hX _),(by have:=hX 1;omega),(vI (Nat.mod_eq_of_lt (by omega))),by omega,by omega,(vI (or_shl 8 h0)),(by simp only [bs_size];omega),(byte_bs hX _),(by have:=hX 2;omega),(vI (Nat.mod_eq_of_lt (by omega))),by omega,by omega,(vI (or_shl 16 (by omega))),(by simp only [bs_size];omega),(byte_bs hX _),(by have:=hX 3;omega),(vI (Nat.mod_eq_of_lt (by omega))),by omega,by omega,(vI (cwdL_or hX)),fun _ _ FF2 MM2=>tN ?_⟩))
 refine wp_ret ?_
 repeat first | refine tR ?_ | refine iR ?_
 exact(ret_fr FF2 0 Tryz.results181 rfl ⟨rfl,MM2.below⟩)
theorem laid_any (ks ns:List Nat)(c:Nat)(hks:Bytes 32 ks)(hns:Bytes 12 ns)(w0:World) :
  Calls Tryz.prog 140 #[.agg (cn .u8 ks),.int .u32 (c:Nat),.agg (cn .u8 ns)] w0 fun e w'=>e=.returned (.agg (cn .u32 (laid ks c ns)))∧Below w0.heap.size w0 w':=by
 refine eF Tryz.func140 rfl Tryz.ntmps140 (by simp) fun ac (FF:Fr 39 ac [(0,.agg (cn .u8 ks)),(1,.int .u32 (c:Nat)),(2,.agg (cn .u8 ns))])=>?_
 have MM:=MemS.start w0
 refine wp_seq (rg_c FF MM [(0,s_ 0 (.cells (cn .u8 ks) 52)),(0,s_ 0 (.cells (cn .u8 ns) 124)),(0,s_ 0 (.cells (cn .u32 (List.replicate 16 0)) 242))] 7 [] [0,2] (⟨(by kernel_rfl),fun bk=>⟨(by kernel_rfl),fun bn=>⟨(by kernel_rfl),fun br=>fun _ _ FF1 MM1=>tN ?_⟩⟩⟩))
 refine wp_seq (rg_c FF1 MM1 [(1,t_ (.agg (cn .u32 ([1634760805,857760878,2036477234,1797285236,0,0,0,0,0,0,0,0,c,0,0,0])))),(0,s_ 0 (.cells (cn .u32 (List.replicate 16 0)) 242)),(0,b_ 0)] 8 [] [1] (⟨(by kernel_rfl),(by kernel_rfl),fun bw=>⟨rfl,((cZ _ _).trans (List.length_replicate ..)),((cZ _ _).trans rfl),(cn_one _ _),rfl,fun _ _ FF2 MM2=>tN ?_⟩⟩))
 have MMr4:MemS _ _ _ [(bw,.cells (cn .u32 (setTo 4 ks (lay0 c) 0)) 242),_,_,_] _:=MM2
 refine wp_seq ?_
 refine wp_seq (rg_c FF2 MMr4 [] 13 [] [] (fun _ _ FF3 MM3=>tN ?_))
 refine wp_for (fun a' w'=>∃i:Nat,i≤8∧Fr 39 a' [(12,iN i),(7,pT bw),(6,pT br),(5,pT bn),(3,pT bk)]∧MemS (fun k=>k<w0.heap.size) w0 w' [(bw,.cells (cn .u32 (setTo 4 ks (lay0 c) i)) 242),(br,.cells (cn .u32 (List.replicate 16 0)) 242),(bn,.cells (cn .u8 ns) 124),(bk,.cells (cn .u8 ks) 52)] []) (fun a' _=>(8-cnt 12 a').toNat) ⟨0,Nat.zero_le _,FF3.pick [0,1,2,3,4],MM3⟩ ?_
 rintro ac4 wd4 ⟨i,hi,FF4,MM4⟩
 have hc:=cnt_of (FF4.get 0 rfl)
 refine rg_c FF4 MM4 [] 14 [] [] (fun _ _ FF5 MM5=>?_)
 by_cases hlt:i<8
 ·skip
  refine tN (.inl ⟨(FF5.ev 0 rfl).trans (dec_t hlt),?_⟩)
  refine wp_seq (rg_c FF5 MM5 [] 13 [] [] (fun _ _ FF6 MM6=>tN ?_))
  refine rg_c FF6 MM6 [(4,w_ 2),(1,l_ 3 (.agg (cn .u8 (quad ks i)))),(0,t_ (.int .u32 (cwdAt ks i:Nat))),(0,w_ 1),(0,s_ 0 (.cells (cn .u32 ((setTo 4 ks (lay0 c) i).set (4+i) (cwdAt ks i))) 242))] 13 [] [] (⟨by omega,by omega,by omega,by decide,by omega,by omega,rfl,(quad_part (by rw [hks.len];omega)),((cZ _ _).trans rfl),(cP en_cword (cword_any (quad ks i) rfl (quad_lt hks.lt i)) _),by omega,rfl,(by rw [cZ,(setTo_len16 _ _ _ _)];omega),(.inl rfl),(cn_set _ _ _ _),fun _ _ FF7 MM7=>?_⟩)
  have MMr16:MemS _ _ _ [(bw,.cells (cn .u32 (setTo 4 ks (lay0 c) (i+1))) 242),_,_,_] _:=MM7
  refine inb_n (tN ?_)
  refine rg_c FF7 MMr16 [] 13 [] [] (⟨by omega,fun _ _ FF8 MM8=>?_⟩)
  have hd:=cnt_of (FF8.get 0 rfl)
  refine tN ⟨⟨i+1,by omega,FF8.pick [0,2,3,4,5],MM8⟩,?_⟩
  rw [hc,hd];omega
 ·skip
  refine tN (.inr ⟨(FF5.ev 0 rfl).trans (dec_f hlt),?_⟩)
  obtain rfl:i=8:=by omega
  refine tN ?_
  refine wp_seq ?_
  refine wp_seq (rg_c FF5 MM5 [] 13 [25] [] (fun _ _ FF9 MM9=>tN ?_))
  have MMr28:MemS _ _ _ [(bw,.cells (cn .u32 (setTo 13 ns (setTo 4 ks (lay0 c) 8) 0)) 242),_,_,_] _:=MM9
  refine wp_for (fun a' w'=>∃i:Nat,i≤3∧Fr 39 a' [(25,iN i),(12,iN 8),(7,pT bw),(6,pT br),(5,pT bn),(3,pT bk)]∧MemS (fun k=>k<w0.heap.size) w0 w' [(bw,.cells (cn .u32 (setTo 13 ns (setTo 4 ks (lay0 c) 8) i)) 242),(br,.cells (cn .u32 (List.replicate 16 0)) 242),(bn,.cells (cn .u8 ns) 124),(bk,.cells (cn .u8 ks) 52)] []) (fun a' _=>(3-cnt 25 a').toNat) ⟨0,Nat.zero_le _,FF9.pick [0,1,2,3,4,5],MMr28⟩ ?_
  rintro ac10 wd10 ⟨i,hi,FF10,MM10⟩
  have hc:=cnt_of (FF10.get 0 rfl)
  refine rg_c FF10 MM10 [] 27 [] [] (fun _ _ FF11 MM11=>?_)
  by_cases hlt:i<3
  ·skip
   refine tN (.inl ⟨(FF11.ev 0 rfl).trans (dec_t hlt),?_⟩)
   refine wp_seq (rg_c FF11 MM11 [] 26 [] [] (fun _ _ FF12 MM12=>tN ?_))
   refine rg_c FF12 MM12 [(4,w_ 2),(1,l_ 2 (.agg (cn .u8 (quad ns i)))),(0,t_ (.int .u32 (cwdAt ns i:Nat))),(0,w_ 1),(0,s_ 0 (.cells (cn .u32 ((setTo 13 ns (setTo 4 ks (lay0 c) 8) i).set (13+i) (cwdAt ns i))) 242))] 26 [] [] (⟨by omega,by omega,by omega,by decide,by omega,by omega,rfl,(quad_part (by rw [hns.len];omega)),((cZ _ _).trans rfl),(cP en_cword (cword_any (quad ns i) rfl (quad_lt hns.lt i)) _),by omega,rfl,(by rw [cZ,((setTo_len _ _ _ _).trans (setTo_len16 _ _ _ _))];omega),(.inl rfl),(cn_set _ _ _ _),fun _ _ FF13 MM13=>?_⟩)
   have MMr38:MemS _ _ _ [(bw,.cells (cn .u32 (setTo 13 ns (setTo 4 ks (lay0 c) 8) (i+1))) 242),_,_,_] _:=MM13
   refine inb_n (tN ?_)
   refine rg_c FF13 MMr38 [] 26 [] [] (⟨by omega,fun _ _ FF14 MM14=>?_⟩)
   have hd:=cnt_of (FF14.get 0 rfl)
   refine tN ⟨⟨i+1,by omega,FF14.pick [0,2,3,4,5,6],MM14⟩,?_⟩
   rw [hc,hd];omega
  ·skip
   refine tN (.inr ⟨(FF11.ev 0 rfl).trans (dec_f hlt),?_⟩)
   obtain rfl:i=3:=by omega
   have MMr47:MemS _ _ _ [(bw,.cells (cn .u32 (laid ks c ns)) 242),_,_,_] _:=MM11
   refine tN ?_
   refine wp_seq (rg_c FF11 MMr47 [(0,b_ 0),(0,b_ 1)] 26 [] [] (⟨rfl,((cZ _ _).trans rfl),rfl,((cZ _ _).trans (List.length_replicate ..)),((cZ _ _).trans rfl),(cn_one _ _),rfl,fun _ _ FF15 MM15=>tN ?_⟩))
   refine wp_ret ?_
   repeat first | refine tR ?_ | refine iR ?_
   exact(retc FF15 MM15 (k:=16) (i:=1) (j:=3) Tryz.results140 rfl rfl Tryz.underlying242 rfl (by kernel_rfl) ((cZ _ _).trans rfl) ⟨rfl,MM15.below⟩)
set_option maxHeartbeats 1000000 in
theorem stirred_any (l:List Nat)(H:Words l)(w0:World) :
  Calls Tryz.prog 170 #[.agg (cn .u32 l)] w0 fun e w'=>e=.returned (.agg (cn .u32 (dblN l 10)))∧Below w0.heap.size w0 w':=by
 refine eF Tryz.func170 rfl Tryz.ntmps170 (by simp) fun ac (FF:Fr 151 ac [(0,.agg (cn .u32 l))])=>?_
 have MM:=MemS.start w0
 refine wp_seq (rg_c FF MM [(0,s_ 0 (.cells (cn .u32 l) 242)),(0,s_ 0 (.cells (cn .u32 (List.replicate 16 0)) 242))] 3 [] [0] (⟨(by kernel_rfl),fun bw=>⟨(by kernel_rfl),fun br=>fun _ _ FF1 MM1=>tN ?_⟩⟩))
 refine wp_seq ?_
 refine wp_seq (rg_c FF1 MM1 [] 4 [] [] (fun _ _ FF2 MM2=>tN ?_))
 have MMr5:MemS _ _ _ [_,(bw,.cells (cn .u32 (dblN l 0)) 242)] _:=MM2
 refine wp_for (fun a' w'=>∃i:Nat,i≤10∧Fr 151 a' [(3,iN i),(2,pT br),(1,pT bw)]∧MemS (fun k=>k<w0.heap.size) w0 w' [(br,.cells (cn .u32 (List.replicate 16 0)) 242),(bw,.cells (cn .u32 (dblN l i)) 242)] []) (fun a' _=>(10-cnt 3 a').toNat) ⟨0,Nat.zero_le _,FF2.pick [0,1,2],MMr5⟩ ?_
 rintro ac3 wd3 ⟨i,hi,FF3,MM3⟩
 have hc:=cnt_of (FF3.get 0 rfl)
 refine rg_c FF3 MM3 [] 5 [] [] (fun _ _ FF4 MM4=>?_)
 by_cases hlt:i<10
 ·skip
  refine tN (.inl ⟨(FF4.ev 0 rfl).trans (dec_t hlt),?_⟩)
  obtain⟨l0,e0⟩:∃z,dblN l i=z:=⟨_,rfl⟩
  have H0:Words l0:=e0▸H.dblN i
  have MMr15:MemS _ _ _ [_,(bw,.cells (cn .u32 l0) 242)] _:=MM4.eqA 1 rfl (by rw [←e0] <;> rfl)
  refine wp_seq (rg_c FF4 MMr15 [(0,w_ 1),(0,l_ 1 (.int .u32 (l0.getD 0 0:Nat))),(0,w_ 1),(0,l_ 1 (.int .u32 (l0.getD 4 0:Nat))),(0,w_ 1),(0,l_ 1 (.int .u32 (l0.getD 8 0:Nat))),(0,w_ 1),(0,l_ 1 (.int .u32 (l0.getD 12 0:Nat))),(0,t_ (.tuple #[.int .u32 ((q4 (l0.getD 0 0) (l0.getD 4 0) (l0.getD 8 0) (l0.getD 12 0)).a:Nat),.int .u32 ((q4 (l0.getD 0 0) (l0.getD 4 0) (l0.getD 8 0) (l0.getD 12 0)).b:Nat),.int .u32 ((q4 (l0.getD 0 0) (l0.getD 4 0) (l0.getD 8 0) (l0.getD 12 0)).c:Nat),.int .u32 ((q4 (l0.getD 0 0) (l0.getD 4 0) (l0.getD 8 0) (l0.getD 12 0)).d:Nat)])),(5,w_ 1),(0,s_ 1 (.cells (cn .u32 (l0.set 0 ((q4 (l0.getD 0 0) (l0.getD 4 0) (l0.getD 8 0) (l0.getD 12 0)).a))) 242)),(0,w_ 1),(0,s_ 1 (.cells (cn .u32 ((l0.set 0 ((q4 (l0.getD 0 0) (l0.getD 4 0) (l0.getD 8 0) (l0.getD 12 0)).a)).set 4 ((q4 (l0.getD 0 0) (l0.getD 4 0) (l0.getD 8 0) (l0.getD 12 0)).b))) 242)),(0,w_ 1),(0,s_ 1 (.cells (cn .u32 (((l0.set 0 ((q4 (l0.getD 0 0) (l0.getD 4 0) (l0.getD 8 0) (l0.getD 12 0)).a)).set 4 ((q4 (l0.getD 0 0) (l0.getD 4 0) (l0.getD 8 0) (l0.getD 12 0)).b)).set 8 ((q4 (l0.getD 0 0) (l0.getD 4 0) (l0.getD 8 0) (l0.getD 12 0)).c))) 242)),(0,w_ 1),(0,s_ 1 (.cells (cn .u32 ((((l0.set 0 ((q4 (l0.getD 0 0) (l0.getD 4 0) (l0.getD 8 0) (l0.getD 12 0)).a)).set 4 ((q4 (l0.getD 0 0) (l0.getD 4 0) (l0.getD 8 0) (l0.getD 12 0)).b)).set 8 ((q4 (l0.getD 0 0) (l0.getD 4 0) (l0.getD 8 0) (l0.getD 12 0)).c)).set 12 ((q4 (l0.getD 0 0) (l0.getD 4 0) (l0.getD 8 0) (l0.getD 12 0)).d))) 242))] 4 [] [] (⟨by decide,rfl,(cn_get _ _ _ (by rw [H0.len];decide)),by decide,rfl,(cn_get _ _ _ (by rw [H0.len];decide)),by decide,rfl,(cn_get _ _ _ (by rw [H0.len];decide)),by decide,rfl,(cn_get _ _ _ (by rw [H0.len];decide)),(cP en_quarter (quarter_any (l0.getD 0 0) (l0.getD 4 0) (l0.getD 8 0) (l0.getD 12 0) (H0.lt 4) (H0.lt 12)) _),by decide,rfl,(by rw [cZ,H0.len];decide),(.inl rfl),(cn_set _ _ _ _),by decide,rfl,(by rw [cZ,(len_set H0.len)];decide),(.inl rfl),(cn_set _ _ _ _),by decide,rfl,(by rw [cZ,(len_set (len_set H0.len))];decide),(.inl rfl),(cn_set _ _ _ _),by decide,rfl,(by rw [cZ,(len_set (len_set (len_set H0.len)))];decide),(.inl rfl),(cn_set _ _ _ _),fun _ _ FF5 MM5=>tN ?_⟩))
  obtain⟨l1,e1⟩:∃z,qAt l0 0 4 8 12=z:=⟨_,rfl⟩
  have H1:Words l1:=e1▸H0.qAt 0 4 8 12
  have MMr19:MemS _ _ _ [_,(bw,.cells (cn .u32 l1) 242)] _:=MM5.eqA 1 rfl (by rw [←e1] <;> rfl)
  refine wp_seq (rg_c FF5 MMr19 [(0,w_ 1),(0,l_ 1 (.int .u32 (l1.getD 1 0:Nat))),(0,w_ 1),(0,l_ 1 (.int .u32 (l1.getD 5 0:Nat))),(0,w_ 1),(0,l_ 1 (.int .u32 (l1.getD 9 0:Nat))),(0,w_ 1),(0,l_ 1 (.int .u32 (l1.getD 13 0:Nat))),(0,t_ (.tuple #[.int .u32 ((q4 (l1.getD 1 0) (l1.getD 5 0) (l1.getD 9 0) (l1.getD 13 0)).a:Nat),.int .u32 ((q4 (l1.getD 1 0) (l1.getD 5 0) (l1.getD 9 0) (l1.getD 13 0)).b:Nat),.int .u32 ((q4 (l1.getD 1 0) (l1.getD 5 0) (l1.getD 9 0) (l1.getD 13 0)).c:Nat),.int .u32 ((q4 (l1.getD 1 0) (l1.getD 5 0) (l1.getD 9 0) (l1.getD 13 0)).d:Nat)])),(5,w_ 1),(0,s_ 1 (.cells (cn .u32 (l1.set 1 ((q4 (l1.getD 1 0) (l1.getD 5 0) (l1.getD 9 0) (l1.getD 13 0)).a))) 242)),(0,w_ 1),(0,s_ 1 (.cells (cn .u32 ((l1.set 1 ((q4 (l1.getD 1 0) (l1.getD 5 0) (l1.getD 9 0) (l1.getD 13 0)).a)).set 5 ((q4 (l1.getD 1 0) (l1.getD 5 0) (l1.getD 9 0) (l1.getD 13 0)).b))) 242)),(0,w_ 1),(0,s_ 1 (.cells (cn .u32 (((l1.set 1 ((q4 (l1.getD 1 0) (l1.getD 5 0) (l1.getD 9 0) (l1.getD 13 0)).a)).set 5 ((q4 (l1.getD 1 0) (l1.getD 5 0) (l1.getD 9 0) (l1.getD 13 0)).b)).set 9 ((q4 (l1.getD 1 0) (l1.getD 5 0) (l1.getD 9 0) (l1.getD 13 0)).c))) 242)),(0,w_ 1),(0,s_ 1 (.cells (cn .u32 ((((l1.set 1 ((q4 (l1.getD 1 0) (l1.getD 5 0) (l1.getD 9 0) (l1.getD 13 0)).a)).set 5 ((q4 (l1.getD 1 0) (l1.getD 5 0) (l1.getD 9 0) (l1.getD 13 0)).b)).set 9 ((q4 (l1.getD 1 0) (l1.getD 5 0) (l1.getD 9 0) (l1.getD 13 0)).c)).set 13 ((q4 (l1.getD 1 0) (l1.getD 5 0) (l1.getD 9 0) (l1.getD 13 0)).d))) 242))] 4 [] [] (⟨by decide,rfl,(cn_get _ _ _ (by rw [H1.len];decide)),by decide,rfl,(cn_get _ _ _ (by rw [H1.len];decide)),by decide,rfl,(cn_get _ _ _ (by rw [H1.len];decide)),by decide,rfl,(cn_get _ _ _ (by rw [H1.len];decide)),(cP en_quarter (quarter_any (l1.getD 1 0) (l1.getD 5 0) (l1.getD 9 0) (l1.getD 13 0) (H1.lt 5) (H1.lt 13)) _),by decide,rfl,(by rw [cZ,H1.len];decide),(.inl rfl),(cn_set _ _ _ _),by decide,rfl,(by rw [cZ,(len_set H1.len)];decide),(.inl rfl),(cn_set _ _ _ _),by decide,rfl,(by rw [cZ,(len_set (len_set H1.len))];decide),(.inl rfl),(cn_set _ _ _ _),by decide,rfl,(by rw [cZ,(len_set (len_set (len_set H1.len)))];decide),(.inl rfl),(cn_set _ _ _ _),fun _ _ FF6 MM6=>tN ?_⟩))
  obtain⟨l2,e2⟩:∃z,qAt l1 1 5 9 13=z:=⟨_,rfl⟩
  have H2:Words l2:=e2▸H1.qAt 1 5 9 13
  have MMr23:MemS _ _ _ [_,(bw,.cells (cn .u32 l2) 242)] _:=MM6.eqA 1 rfl (by rw [←e2] <;> rfl)
  refine wp_seq (rg_c FF6 MMr23 [(0,w_ 1),(0,l_ 1 (.int .u32 (l2.getD 2 0:Nat))),(0,w_ 1),(0,l_ 1 (.int .u32 (l2.getD 6 0:Nat))),(0,w_ 1),(0,l_ 1 (.int .u32 (l2.getD 10 0:Nat))),(0,w_ 1),(0,l_ 1 (.int .u32 (l2.getD 14 0:Nat))),(0,t_ (.tuple #[.int .u32 ((q4 (l2.getD 2 0) (l2.getD 6 0) (l2.getD 10 0) (l2.getD 14 0)).a:Nat),.int .u32 ((q4 (l2.getD 2 0) (l2.getD 6 0) (l2.getD 10 0) (l2.getD 14 0)).b:Nat),.int .u32 ((q4 (l2.getD 2 0) (l2.getD 6 0) (l2.getD 10 0) (l2.getD 14 0)).c:Nat),.int .u32 ((q4 (l2.getD 2 0) (l2.getD 6 0) (l2.getD 10 0) (l2.getD 14 0)).d:Nat)])),(5,w_ 1),(0,s_ 1 (.cells (cn .u32 (l2.set 2 ((q4 (l2.getD 2 0) (l2.getD 6 0) (l2.getD 10 0) (l2.getD 14 0)).a))) 242)),(0,w_ 1),(0,s_ 1 (.cells (cn .u32 ((l2.set 2 ((q4 (l2.getD 2 0) (l2.getD 6 0) (l2.getD 10 0) (l2.getD 14 0)).a)).set 6 ((q4 (l2.getD 2 0) (l2.getD 6 0) (l2.getD 10 0) (l2.getD 14 0)).b))) 242)),(0,w_ 1),(0,s_ 1 (.cells (cn .u32 (((l2.set 2 ((q4 (l2.getD 2 0) (l2.getD 6 0) (l2.getD 10 0) (l2.getD 14 0)).a)).set 6 ((q4 (l2.getD 2 0) (l2.getD 6 0) (l2.getD 10 0) (l2.getD 14 0)).b)).set 10 ((q4 (l2.getD 2 0) (l2.getD 6 0) (l2.getD 10 0) (l2.getD 14 0)).c))) 242)),(0,w_ 1),(0,s_ 1 (.cells (cn .u32 ((((l2.set 2 ((q4 (l2.getD 2 0) (l2.getD 6 0) (l2.getD 10 0) (l2.getD 14 0)).a)).set 6 ((q4 (l2.getD 2 0) (l2.getD 6 0) (l2.getD 10 0) (l2.getD 14 0)).b)).set 10 ((q4 (l2.getD 2 0) (l2.getD 6 0) (l2.getD 10 0) (l2.getD 14 0)).c)).set 14 ((q4 (l2.getD 2 0) (l2.getD 6 0) (l2.getD 10 0) (l2.getD 14 0)).d))) 242))] 4 [] [] (⟨by decide,rfl,(cn_get _ _ _ (by rw [H2.len];decide)),by decide,rfl,(cn_get _ _ _ (by rw [H2.len];decide)),by decide,rfl,(cn_get _ _ _ (by rw [H2.len];decide)),by decide,rfl,(cn_get _ _ _ (by rw [H2.len];decide)),(cP en_quarter (quarter_any (l2.getD 2 0) (l2.getD 6 0) (l2.getD 10 0) (l2.getD 14 0) (H2.lt 6) (H2.lt 14)) _),by decide,rfl,(by rw [cZ,H2.len];decide),(.inl rfl),(cn_set _ _ _ _),by decide,rfl,(by rw [cZ,(len_set H2.len)];decide),(.inl rfl),(cn_set _ _ _ _),by decide,rfl,(by rw [cZ,(len_set (len_set H2.len))];decide),(.inl rfl),(cn_set _ _ _ _),by decide,rfl,(by rw [cZ,(len_set (len_set (len_set H2.len)))];decide),(.inl rfl),(cn_set _ _ _ _),fun _ _ FF7 MM7=>tN ?_⟩))
  obtain⟨l3,e3⟩:∃z,qAt l2 2 6 10 14=z:=⟨_,rfl⟩
  have H3:Words l3:=e3▸H2.qAt 2 6 10 14
  have MMr27:MemS _ _ _ [_,(bw,.cells (cn .u32 l3) 242)] _:=MM7.eqA 1 rfl (by rw [←e3] <;> rfl)
  refine wp_seq (rg_c FF7 MMr27 [(0,w_ 1),(0,l_ 1 (.int .u32 (l3.getD 3 0:Nat))),(0,w_ 1),(0,l_ 1 (.int .u32 (l3.getD 7 0:Nat))),(0,w_ 1),(0,l_ 1 (.int .u32 (l3.getD 11 0:Nat))),(0,w_ 1),(0,l_ 1 (.int .u32 (l3.getD 15 0:Nat))),(0,t_ (.tuple #[.int .u32 ((q4 (l3.getD 3 0) (l3.getD 7 0) (l3.getD 11 0) (l3.getD 15 0)).a:Nat),.int .u32 ((q4 (l3.getD 3 0) (l3.getD 7 0) (l3.getD 11 0) (l3.getD 15 0)).b:Nat),.int .u32 ((q4 (l3.getD 3 0) (l3.getD 7 0) (l3.getD 11 0) (l3.getD 15 0)).c:Nat),.int .u32 ((q4 (l3.getD 3 0) (l3.getD 7 0) (l3.getD 11 0) (l3.getD 15 0)).d:Nat)])),(5,w_ 1),(0,s_ 1 (.cells (cn .u32 (l3.set 3 ((q4 (l3.getD 3 0) (l3.getD 7 0) (l3.getD 11 0) (l3.getD 15 0)).a))) 242)),(0,w_ 1),(0,s_ 1 (.cells (cn .u32 ((l3.set 3 ((q4 (l3.getD 3 0) (l3.getD 7 0) (l3.getD 11 0) (l3.getD 15 0)).a)).set 7 ((q4 (l3.getD 3 0) (l3.getD 7 0) (l3.getD 11 0) (l3.getD 15 0)).b))) 242)),(0,w_ 1),(0,s_ 1 (.cells (cn .u32 (((l3.set 3 ((q4 (l3.getD 3 0) (l3.getD 7 0) (l3.getD 11 0) (l3.getD 15 0)).a)).set 7 ((q4 (l3.getD 3 0) (l3.getD 7 0) (l3.getD 11 0) (l3.getD 15 0)).b)).set 11 ((q4 (l3.getD 3 0) (l3.getD 7 0) (l3.getD 11 0) (l3.getD 15 0)).c))) 242)),(0,w_ 1),(0,s_ 1 (.cells (cn .u32 ((((l3.set 3 ((q4 (l3.getD 3 0) (l3.getD 7 0) (l3.getD 11 0) (l3.getD 15 0)).a)).set 7 ((q4 (l3.getD 3 0) (l3.getD 7 0) (l3.getD 11 0) (l3.getD 15 0)).b)).set 11 ((q4 (l3.getD 3 0) (l3.getD 7 0) (l3.getD 11 0) (l3.getD 15 0)).c)).set 15 ((q4 (l3.getD 3 0) (l3.getD 7 0) (l3.getD 11 0) (l3.getD 15 0)).d))) 242))] 4 [] [] (⟨by decide,rfl,(cn_get _ _ _ (by rw [H3.len];decide)),by decide,rfl,(cn_get _ _ _ (by rw [H3.len];decide)),by decide,rfl,(cn_get _ _ _ (by rw [H3.len];decide)),by decide,rfl,(cn_get _ _ _ (by rw [H3.len];decide)),(cP en_quarter (quarter_any (l3.getD 3 0) (l3.getD 7 0) (l3.getD 11 0) (l3.getD 15 0) (H3.lt 7) (H3.lt 15)) _),by decide,rfl,(by rw [cZ,H3.len];decide),(.inl rfl),(cn_set _ _ _ _),by decide,rfl,(by rw [cZ,(len_set H3.len)];decide),(.inl rfl),(cn_set _ _ _ _),by decide,rfl,(by rw [cZ,(len_set (len_set H3.len))];decide),(.inl rfl),(cn_set _ _ _ _),by decide,rfl,(by rw [cZ,(len_set (len_set (len_set H3.len)))];decide),(.inl rfl),(cn_set _ _ _ _),fun _ _ FF8 MM8=>tN ?_⟩))
  obtain⟨l4,e4⟩:∃z,qAt l3 3 7 11 15=z:=⟨_,rfl⟩
  have H4:Words l4:=e4▸H3.qAt 3 7 11 15
  have MMr31:MemS _ _ _ [_,(bw,.cells (cn .u32 l4) 242)] _:=MM8.eqA 1 rfl (by rw [←e4] <;> rfl)
  refine wp_seq (rg_c FF8 MMr31 [(0,w_ 1),(0,l_ 1 (.int .u32 (l4.getD 0 0:Nat))),(0,w_ 1),(0,l_ 1 (.int .u32 (l4.getD 5 0:Nat))),(0,w_ 1),(0,l_ 1 (.int .u32 (l4.getD 10 0:Nat))),(0,w_ 1),(0,l_ 1 (.int .u32 (l4.getD 15 0:Nat))),(0,t_ (.tuple #[.int .u32 ((q4 (l4.getD 0 0) (l4.getD 5 0) (l4.getD 10 0) (l4.getD 15 0)).a:Nat),.int .u32 ((q4 (l4.getD 0 0) (l4.getD 5 0) (l4.getD 10 0) (l4.getD 15 0)).b:Nat),.int .u32 ((q4 (l4.getD 0 0) (l4.getD 5 0) (l4.getD 10 0) (l4.getD 15 0)).c:Nat),.int .u32 ((q4 (l4.getD 0 0) (l4.getD 5 0) (l4.getD 10 0) (l4.getD 15 0)).d:Nat)])),(5,w_ 1),(0,s_ 1 (.cells (cn .u32 (l4.set 0 ((q4 (l4.getD 0 0) (l4.getD 5 0) (l4.getD 10 0) (l4.getD 15 0)).a))) 242)),(0,w_ 1),(0,s_ 1 (.cells (cn .u32 ((l4.set 0 ((q4 (l4.getD 0 0) (l4.getD 5 0) (l4.getD 10 0) (l4.getD 15 0)).a)).set 5 ((q4 (l4.getD 0 0) (l4.getD 5 0) (l4.getD 10 0) (l4.getD 15 0)).b))) 242)),(0,w_ 1),(0,s_ 1 (.cells (cn .u32 (((l4.set 0 ((q4 (l4.getD 0 0) (l4.getD 5 0) (l4.getD 10 0) (l4.getD 15 0)).a)).set 5 ((q4 (l4.getD 0 0) (l4.getD 5 0) (l4.getD 10 0) (l4.getD 15 0)).b)).set 10 ((q4 (l4.getD 0 0) (l4.getD 5 0) (l4.getD 10 0) (l4.getD 15 0)).c))) 242)),(0,w_ 1),(0,s_ 1 (.cells (cn .u32 ((((l4.set 0 ((q4 (l4.getD 0 0) (l4.getD 5 0) (l4.getD 10 0) (l4.getD 15 0)).a)).set 5 ((q4 (l4.getD 0 0) (l4.getD 5 0) (l4.getD 10 0) (l4.getD 15 0)).b)).set 10 ((q4 (l4.getD 0 0) (l4.getD 5 0) (l4.getD 10 0) (l4.getD 15 0)).c)).set 15 ((q4 (l4.getD 0 0) (l4.getD 5 0) (l4.getD 10 0) (l4.getD 15 0)).d))) 242))] 4 [] [] (⟨by decide,rfl,(cn_get _ _ _ (by rw [H4.len];decide)),by decide,rfl,(cn_get _ _ _ (by rw [H4.len];decide)),by decide,rfl,(cn_get _ _ _ (by rw [H4.len];decide)),by decide,rfl,(cn_get _ _ _ (by rw [H4.len];decide)),(cP en_quarter (quarter_any (l4.getD 0 0) (l4.getD 5 0) (l4.getD 10 0) (l4.getD 15 0) (H4.lt 5) (H4.lt 15)) _),by decide,rfl,(by rw [cZ,H4.len];decide),(.inl rfl),(cn_set _ _ _ _),by decide,rfl,(by rw [cZ,(len_set H4.len)];decide),(.inl rfl),(cn_set _ _ _ _),by decide,rfl,(by rw [cZ,(len_set (len_set H4.len))];decide),(.inl rfl),(cn_set _ _ _ _),by decide,rfl,(by rw [cZ,(len_set (len_set (len_set H4.len)))];decide),(.inl rfl),(cn_set _ _ _ _),fun _ _ FF9 MM9=>tN ?_⟩))
  obtain⟨l5,e5⟩:∃z,qAt l4 0 5 10 15=z:=⟨_,rfl⟩
  have H5:Words l5:=e5▸H4.qAt 0 5 10 15
  have MMr35:MemS _ _ _ [_,(bw,.cells (cn .u32 l5) 242)] _:=MM9.eqA 1 rfl (by rw [←e5] <;> rfl)
  refine wp_seq (rg_c FF9 MMr35 [(0,w_ 1),(0,l_ 1 (.int .u32 (l5.getD 1 0:Nat))),(0,w_ 1),(0,l_ 1 (.int .u32 (l5.getD 6 0:Nat))),(0,w_ 1),(0,l_ 1 (.int .u32 (l5.getD 11 0:Nat))),(0,w_ 1),(0,l_ 1 (.int .u32 (l5.getD 12 0:Nat))),(0,t_ (.tuple #[.int .u32 ((q4 (l5.getD 1 0) (l5.getD 6 0) (l5.getD 11 0) (l5.getD 12 0)).a:Nat),.int .u32 ((q4 (l5.getD 1 0) (l5.getD 6 0) (l5.getD 11 0) (l5.getD 12 0)).b:Nat),.int .u32 ((q4 (l5.getD 1 0) (l5.getD 6 0) (l5.getD 11 0) (l5.getD 12 0)).c:Nat),.int .u32 ((q4 (l5.getD 1 0) (l5.getD 6 0) (l5.getD 11 0) (l5.getD 12 0)).d:Nat)])),(5,w_ 1),(0,s_ 1 (.cells (cn .u32 (l5.set 1 ((q4 (l5.getD 1 0) (l5.getD 6 0) (l5.getD 11 0) (l5.getD 12 0)).a))) 242)),(0,w_ 1),(0,s_ 1 (.cells (cn .u32 ((l5.set 1 ((q4 (l5.getD 1 0) (l5.getD 6 0) (l5.getD 11 0) (l5.getD 12 0)).a)).set 6 ((q4 (l5.getD 1 0) (l5.getD 6 0) (l5.getD 11 0) (l5.getD 12 0)).b))) 242)),(0,w_ 1),(0,s_ 1 (.cells (cn .u32 (((l5.set 1 ((q4 (l5.getD 1 0) (l5.getD 6 0) (l5.getD 11 0) (l5.getD 12 0)).a)).set 6 ((q4 (l5.getD 1 0) (l5.getD 6 0) (l5.getD 11 0) (l5.getD 12 0)).b)).set 11 ((q4 (l5.getD 1 0) (l5.getD 6 0) (l5.getD 11 0) (l5.getD 12 0)).c))) 242)),(0,w_ 1),(0,s_ 1 (.cells (cn .u32 ((((l5.set 1 ((q4 (l5.getD 1 0) (l5.getD 6 0) (l5.getD 11 0) (l5.getD 12 0)).a)).set 6 ((q4 (l5.getD 1 0) (l5.getD 6 0) (l5.getD 11 0) (l5.getD 12 0)).b)).set 11 ((q4 (l5.getD 1 0) (l5.getD 6 0) (l5.getD 11 0) (l5.getD 12 0)).c)).set 12 ((q4 (l5.getD 1 0) (l5.getD 6 0) (l5.getD 11 0) (l5.getD 12 0)).d))) 242))] 4 [] [] (⟨by decide,rfl,(cn_get _ _ _ (by rw [H5.len];decide)),by decide,rfl,(cn_get _ _ _ (by rw [H5.len];decide)),by decide,rfl,(cn_get _ _ _ (by rw [H5.len];decide)),by decide,rfl,(cn_get _ _ _ (by rw [H5.len];decide)),(cP en_quarter (quarter_any (l5.getD 1 0) (l5.getD 6 0) (l5.getD 11 0) (l5.getD 12 0) (H5.lt 6) (H5.lt 12)) _),by decide,rfl,(by rw [cZ,H5.len];decide),(.inl rfl),(cn_set _ _ _ _),by decide,rfl,(by rw [cZ,(len_set H5.len)];decide),(.inl rfl),(cn_set _ _ _ _),by decide,rfl,(by rw [cZ,(len_set (len_set H5.len))];decide),(.inl rfl),(cn_set _ _ _ _),by decide,rfl,(by rw [cZ,(len_set (len_set (len_set H5.len)))];decide),(.inl rfl),(cn_set _ _ _ _),fun _ _ FF10 MM10=>tN ?_⟩))
  obtain⟨l6,e6⟩:∃z,qAt l5 1 6 11 12=z:=⟨_,rfl⟩
  have H6:Words l6:=e6▸H5.qAt 1 6 11 12
  have MMr39:MemS _ _ _ [_,(bw,.cells (cn .u32 l6) 242)] _:=MM10.eqA 1 rfl (by rw [←e6] <;> rfl)
  refine wp_seq (rg_c FF10 MMr39 [(0,w_ 1),(0,l_ 1 (.int .u32 (l6.getD 2 0:Nat))),(0,w_ 1),(0,l_ 1 (.int .u32 (l6.getD 7 0:Nat))),(0,w_ 1),(0,l_ 1 (.int .u32 (l6.getD 8 0:Nat))),(0,w_ 1),(0,l_ 1 (.int .u32 (l6.getD 13 0:Nat))),(0,t_ (.tuple #[.int .u32 ((q4 (l6.getD 2 0) (l6.getD 7 0) (l6.getD 8 0) (l6.getD 13 0)).a:Nat),.int .u32 ((q4 (l6.getD 2 0) (l6.getD 7 0) (l6.getD 8 0) (l6.getD 13 0)).b:Nat),.int .u32 ((q4 (l6.getD 2 0) (l6.getD 7 0) (l6.getD 8 0) (l6.getD 13 0)).c:Nat),.int .u32 ((q4 (l6.getD 2 0) (l6.getD 7 0) (l6.getD 8 0) (l6.getD 13 0)).d:Nat)])),(5,w_ 1),(0,s_ 1 (.cells (cn .u32 (l6.set 2 ((q4 (l6.getD 2 0) (l6.getD 7 0) (l6.getD 8 0) (l6.getD 13 0)).a))) 242)),(0,w_ 1),(0,s_ 1 (.cells (cn .u32 ((l6.set 2 ((q4 (l6.getD 2 0) (l6.getD 7 0) (l6.getD 8 0) (l6.getD 13 0)).a)).set 7 ((q4 (l6.getD 2 0) (l6.getD 7 0) (l6.getD 8 0) (l6.getD 13 0)).b))) 242)),(0,w_ 1),(0,s_ 1 (.cells (cn .u32 (((l6.set 2 ((q4 (l6.getD 2 0) (l6.getD 7 0) (l6.getD 8 0) (l6.getD 13 0)).a)).set 7 ((q4 (l6.getD 2 0) (l6.getD 7 0) (l6.getD 8 0) (l6.getD 13 0)).b)).set 8 ((q4 (l6.getD 2 0) (l6.getD 7 0) (l6.getD 8 0) (l6.getD 13 0)).c))) 242)),(0,w_ 1),(0,s_ 1 (.cells (cn .u32 ((((l6.set 2 ((q4 (l6.getD 2 0) (l6.getD 7 0) (l6.getD 8 0) (l6.getD 13 0)).a)).set 7 ((q4 (l6.getD 2 0) (l6.getD 7 0) (l6.getD 8 0) (l6.getD 13 0)).b)).set 8 ((q4 (l6.getD 2 0) (l6.getD 7 0) (l6.getD 8 0) (l6.getD 13 0)).c)).set 13 ((q4 (l6.getD 2 0) (l6.getD 7 0) (l6.getD 8 0) (l6.getD 13 0)).d))) 242))] 4 [] [] (⟨by decide,rfl,(cn_get _ _ _ (by rw [H6.len];decide)),by decide,rfl,(cn_get _ _ _ (by rw [H6.len];decide)),by decide,rfl,(cn_get _ _ _ (by rw [H6.len];decide)),by decide,rfl,(cn_get _ _ _ (by rw [H6.len];decide)),(cP en_quarter (quarter_any (l6.getD 2 0) (l6.getD 7 0) (l6.getD 8 0) (l6.getD 13 0) (H6.lt 7) (H6.lt 13)) _),by decide,rfl,(by rw [cZ,H6.len];decide),(.inl rfl),(cn_set _ _ _ _),by decide,rfl,(by rw [cZ,(len_set H6.len)];decide),(.inl rfl),(cn_set _ _ _ _),by decide,rfl,(by rw [cZ,(len_set (len_set H6.len))];decide),(.inl rfl),(cn_set _ _ _ _),by decide,rfl,(by rw [cZ,(len_set (len_set (len_set H6.len)))];decide),(.inl rfl),(cn_set _ _ _ _),fun _ _ FF11 MM11=>tN ?_⟩))
  obtain⟨l7,e7⟩:∃z,qAt l6 2 7 8 13=z:=⟨_,rfl⟩
  have H7:Words l7:=e7▸H6.qAt 2 7 8 13
  have MMr43:MemS _ _ _ [_,(bw,.cells (cn .u32 l7) 242)] _:=MM11.eqA 1 rfl (by rw [←e7] <;> rfl)
  refine rg_c FF11 MMr43 [(0,w_ 1),(0,l_ 1 (.int .u32 (l7.getD 3 0:Nat))),(0,w_ 1),(0,l_ 1 (.int .u32 (l7.getD 4 0:Nat))),(0,w_ 1),(0,l_ 1 (.int .u32 (l7.getD 9 0:Nat))),(0,w_ 1),(0,l_ 1 (.int .u32 (l7.getD 14 0:Nat))),(0,t_ (.tuple #[.int .u32 ((q4 (l7.getD 3 0) (l7.getD 4 0) (l7.getD 9 0) (l7.getD 14 0)).a:Nat),.int .u32 ((q4 (l7.getD 3 0) (l7.getD 4 0) (l7.getD 9 0) (l7.getD 14 0)).b:Nat),.int .u32 ((q4 (l7.getD 3 0) (l7.getD 4 0) (l7.getD 9 0) (l7.getD 14 0)).c:Nat),.int .u32 ((q4 (l7.getD 3 0) (l7.getD 4 0) (l7.getD 9 0) (l7.getD 14 0)).d:Nat)])),(5,w_ 1),(0,s_ 1 (.cells (cn .u32 (l7.set 3 ((q4 (l7.getD 3 0) (l7.getD 4 0) (l7.getD 9 0) (l7.getD 14 0)).a))) 242)),(0,w_ 1),(0,s_ 1 (.cells (cn .u32 ((l7.set 3 ((q4 (l7.getD 3 0) (l7.getD 4 0) (l7.getD 9 0) (l7.getD 14 0)).a)).set 4 ((q4 (l7.getD 3 0) (l7.getD 4 0) (l7.getD 9 0) (l7.getD 14 0)).b))) 242)),(0,w_ 1),(0,s_ 1 (.cells (cn .u32 (((l7.set 3 ((q4 (l7.getD 3 0) (l7.getD 4 0) (l7.getD 9 0) (l7.getD 14 0)).a)).set 4 ((q4 (l7.getD 3 0) (l7.getD 4 0) (l7.getD 9 0) (l7.getD 14 0)).b)).set 9 ((q4 (l7.getD 3 0) (l7.getD 4 0) (l7.getD 9 0) (l7.getD 14 0)).c))) 242)),(0,w_ 1),(0,s_ 1 (.cells (cn .u32 ((((l7.set 3 ((q4 (l7.getD 3 0) (l7.getD 4 0) (l7.getD 9 0) (l7.getD 14 0)).a)).set 4 ((q4 (l7.getD 3 0) (l7.getD 4 0) (l7.getD 9 0) (l7.getD 14 0)).b)).set 9 ((q4 (l7.getD 3 0) (l7.getD 4 0) (l7.getD 9 0) (l7.getD 14 0)).c)).set 14 ((q4 (l7.getD 3 0) (l7.getD 4 0) (l7.getD 9 0) (l7.getD 14 0)).d))) 242))] 4 [] [] (⟨by decide,rfl,(cn_get _ _ _ (by rw [H7.len];decide)),by decide,rfl,(cn_get _ _ _ (by rw [H7.len];decide)),by decide,rfl,(cn_get _ _ _ (by rw [H7.len];decide)),by decide,rfl,(cn_get _ _ _ (by rw [H7.len];decide)),(cP en_quarter (quarter_any (l7.getD 3 0) (l7.getD 4 0) (l7.getD 9 0) (l7.getD 14 0) (H7.lt 4) (H7.lt 14)) _),by decide,rfl,(by rw [cZ,H7.len];decide),(.inl rfl),(cn_set _ _ _ _),by decide,rfl,(by rw [cZ,(len_set H7.len)];decide),(.inl rfl),(cn_set _ _ _ _),by decide,rfl,(by rw [cZ,(len_set (len_set H7.len))];decide),(.inl rfl),(cn_set _ _ _ _),by decide,rfl,(by rw [cZ,(len_set (len_set (len_set H7.len)))];decide),(.inl rfl),(cn_set _ _ _ _),fun _ _ FF12 MM12=>?_⟩)
  obtain⟨l8,e8⟩:∃z,qAt l7 3 4 9 14=z:=⟨_,rfl⟩
  have H8:Words l8:=e8▸H7.qAt 3 4 9 14
  have MMr47:MemS _ _ _ [_,(bw,.cells (cn .u32 l8) 242)] _:=MM12.eqA 1 rfl (by rw [←e8] <;> rfl)
  have e9:l8=dblN l (i+1):=by subst e1 e2 e3 e4 e5 e6 e7 e8 e0;rfl
  have MMr49:MemS _ _ _ [_,(bw,.cells (cn .u32 (dblN l (i+1))) 242)] _:=MMr47.eqA 1 rfl (by rw [←e9] <;> rfl)
  refine inb_n (tN ?_)
  refine rg_c FF12 MMr49 [] 4 [] [] (⟨by omega,fun _ _ FF13 MM13=>?_⟩)
  have hd:=cnt_of (FF13.get 0 rfl)
  refine tN ⟨⟨i+1,by omega,FF13.pick [0,1,2],MM13⟩,?_⟩
  rw [hc,hd];omega
 ·skip
  refine tN (.inr ⟨(FF4.ev 0 rfl).trans (dec_f hlt),?_⟩)
  obtain rfl:i=10:=by omega
  refine tN ?_
  refine wp_seq (rg_c FF4 MM4 [(0,b_ 1),(0,b_ 0)] 4 [] [] (⟨rfl,((cZ _ _).trans (H.dblN 10).len),rfl,((cZ _ _).trans (List.length_replicate ..)),((cZ _ _).trans (H.dblN 10).len),(cn_one _ _),rfl,fun _ _ FF14 MM14=>tN ?_⟩))
  refine wp_ret ?_
  repeat first | refine tR ?_ | refine iR ?_
  exact(retc FF14 MM14 (k:=16) (i:=0) (j:=1) Tryz.results170 rfl rfl Tryz.underlying242 rfl (by kernel_rfl) ((cZ _ _).trans (H.dblN 10).len) ⟨rfl,MM14.below⟩)
theorem cblk_any (l:List Nat)(H:Words l)(w0:World) :
  Calls Tryz.prog 142 #[.agg (cn .u32 l)] w0 fun e w'=>e=.returned (.agg (cn .u8 (blockW l)))∧Below w0.heap.size w0 w':=by
 refine eF Tryz.func142 rfl Tryz.ntmps142 (by simp) fun ac (FF:Fr 45 ac [(0,.agg (cn .u32 l))])=>?_
 have MM:=MemS.start w0
 refine wp_seq (rg_c FF MM [(0,s_ 0 (.cells (cn .u32 l) 242)),(0,s_ 0 (.cells (cn .u8 (List.replicate 64 0)) 245))] 3 [] [0] (⟨(by kernel_rfl),fun bl=>⟨(by kernel_rfl),fun br=>fun _ _ FF1 MM1=>tN ?_⟩⟩))
 refine wp_seq (rg_c FF1 MM1 [(0,s_ 0 (.cells (cn .u8 (List.replicate 64 0)) 245))] 4 [] [] (⟨(by kernel_rfl),fun bb=>fun _ _ FF2 MM2=>tN ?_⟩))
 have MMr4:MemS _ _ _ [(bb,.cells (cn .u8 (bset (dblN l 10) l 0)) 245),_,_] _:=MM2
 refine wp_seq ?_
 refine wp_seq (rg_c FF2 MMr4 [(0,b_ 2),(0,t_ (.agg (cn .u32 (dblN l 10))))] 9 [] [6] (⟨rfl,((cZ _ _).trans H.len),(cP en_stirred (stirred_any l H) _),fun _ _ FF3 MM3=>tN ?_⟩))
 refine wp_for (fun a' w'=>∃i:Nat,i≤16∧Fr 45 a' [(8,iN i),(7,.agg (cn .u32 (dblN l 10))),(3,pT bb),(2,pT br),(1,pT bl)]∧MemS (fun k=>k<w0.heap.size) w0 w' [(bb,.cells (cn .u8 (bset (dblN l 10) l i)) 245),(br,.cells (cn .u8 (List.replicate 64 0)) 245),(bl,.cells (cn .u32 l) 242)] []) (fun a' _=>(16-cnt 8 a').toNat) ⟨0,Nat.zero_le _,FF3.pick [0,1,2,3,4],MM3⟩ ?_
 rintro ac4 wd4 ⟨i,hi,FF4,MM4⟩
 have hc:=cnt_of (FF4.get 0 rfl)
 refine rg_c FF4 MM4 [] 9 [9] [] (fun _ _ FF5 MM5=>?_)
 by_cases hlt:i<16
 ·skip
  refine tN (.inl ⟨(FF5.ev 0 rfl).trans (dec_t hlt),?_⟩)
  refine wp_seq (rg_c FF5 MM5 [(1,t_ (.int .u32 ((dblN l 10).getD i 0:Nat)))] 9 [] [] (⟨by omega,(cn_get _ _ _ (by rw [(H.dblN 10).len];omega)),fun _ _ FF6 MM6=>tN ?_⟩))
  refine wp_seq (rg_c FF6 MM6 [(2,w_ 1),(0,l_ 2 (.int .u32 (l.getD i 0:Nat))),(0,t_ (.int .u32 (sumW (dblN l 10) l i:Nat)))] 9 [] [] (⟨by omega,rfl,(cn_get _ _ _ (by rw [H.len];omega)),rfl,fun _ _ FF7 MM7=>tN ?_⟩))
  refine rg_c FF7 MM7 [(12,t_ (iB (sumW (dblN l 10) l i%256))),(1,t_ (.int .u32 ((sumW (dblN l 10) l i)/256:Nat))),(0,t_ (iB (sumW (dblN l 10) l i/256%256))),(1,t_ (.int .u32 ((sumW (dblN l 10) l i)/65536:Nat))),(0,t_ (iB (sumW (dblN l 10) l i/65536%256))),(1,t_ (.int .u32 ((sumW (dblN l 10) l i)/16777216:Nat))),(0,t_ (iB (sumW (dblN l 10) l i/16777216%256))),(0,w_ 1),(0,s_ 0 (.cells (cn .u8 ((bset (dblN l 10) l i).set (4*i) (sumW (dblN l 10) l i%256))) 245)),(0,w_ 1),(0,s_ 0 (.cells (cn .u8 (((bset (dblN l 10) l i).set (4*i) (sumW (dblN l 10) l i%256)).set ((4*i)+1) (sumW (dblN l 10) l i/256%256))) 245)),(0,w_ 1),(0,s_ 0 (.cells (cn .u8 ((((bset (dblN l 10) l i).set (4*i) (sumW (dblN l 10) l i%256)).set ((4*i)+1) (sumW (dblN l 10) l i/256%256)).set ((4*i)+2) (sumW (dblN l 10) l i/65536%256))) 245)),(0,w_ 1),(0,s_ 0 (.cells (cn .u8 (((((bset (dblN l 10) l i).set (4*i) (sumW (dblN l 10) l i%256)).set ((4*i)+1) (sumW (dblN l 10) l i/256%256)).set ((4*i)+2) (sumW (dblN l 10) l i/65536%256)).set ((4*i)+3) (sumW (dblN l 10) l i/16777216%256))) 245))] 9 [] [] (⟨by omega,by omega,by omega,by omega,by omega,by omega,by omega,rfl,by decide,rfl,rfl,by decide,rfl,rfl,by decide,rfl,rfl,by omega,rfl,(by rw [cZ,(bset_len _ _ _)];omega),(.inl rfl),(cn_set _ _ _ _),by omega,rfl,(by rw [cZ,(len_set (bset_len _ _ _))];omega),(.inl rfl),(cn_set _ _ _ _),by omega,rfl,(by rw [cZ,(len_set (len_set (bset_len _ _ _)))];omega),(.inl rfl),(cn_set _ _ _ _),by omega,rfl,(by rw [cZ,(len_set (len_set (len_set (bset_len _ _ _))))];omega),(.inl rfl),(cn_set _ _ _ _),fun _ _ FF8 MM8=>?_⟩)
  have MMr17:MemS _ _ _ [(bb,.cells (cn .u8 (bset (dblN l 10) l (i+1))) 245),_,_] _:=MM8
  refine inb_n (tN ?_)
  refine rg_c FF8 MMr17 [] 9 [] [] (⟨by omega,fun _ _ FF9 MM9=>?_⟩)
  have hd:=cnt_of (FF9.get 0 rfl)
  refine tN ⟨⟨i+1,by omega,FF9.pick [0,3,4,5,6],MM9⟩,?_⟩
  rw [hc,hd];omega
 ·skip
  refine tN (.inr ⟨(FF5.ev 0 rfl).trans (dec_f hlt),?_⟩)
  obtain rfl:i=16:=by omega
  refine tN ?_
  refine wp_seq (rg_c FF5 MM5 [(0,b_ 0),(0,b_ 1)] 9 [] [] (⟨rfl,((cZ _ _).trans (bset_len _ _ _)),rfl,((cZ _ _).trans (List.length_replicate ..)),((cZ _ _).trans (bset_len _ _ _)),(cn_one _ _),rfl,fun _ _ FF10 MM10=>tN ?_⟩))
  refine wp_ret ?_
  repeat first | refine tR ?_ | refine iR ?_
  exact(retc FF10 MM10 (k:=64) (i:=1) (j:=3) Tryz.results142 rfl rfl Tryz.underlying245 rfl (by kernel_rfl) ((cZ _ _).trans (bset_len _ _ _)) ⟨by rw [bset_all],MM10.below⟩)
theorem Block_any (ks ns:List Nat)(c:Nat)(hks:Bytes 32 ks)(hc:c<4294967296)(hns:Bytes 12 ns)(w0:World) :
  Calls Tryz.prog 143 #[.agg (cn .u8 ks),.int .u32 (c:Nat),.agg (cn .u8 ns)] w0 fun e w'=>e=.returned (sB (blockN ks c ns))∧Below w0.heap.size w0 w':=by
 refine eF Tryz.func143 rfl Tryz.ntmps143 (by simp) fun ac (FF:Fr 15 ac [(0,.agg (cn .u8 ks)),(1,.int .u32 (c:Nat)),(2,.agg (cn .u8 ns))])=>?_
 have MM:=MemS.start w0
 have H:=laid_words hks hc hns
 refine wp_seq (rg_c FF MM [(0,s_ 0 (.cells (cn .u8 ks) 52)),(0,s_ 0 (.cells (cn .u8 ns) 124)),(0,t_ (sB []))] 7 [] [0,2] (⟨(by kernel_rfl),fun bk=>⟨(by kernel_rfl),fun bn=>⟨(by kernel_rfl),fun _ _ FF1 MM1=>tN ?_⟩⟩⟩))
 refine wp_seq (rg_c FF1 MM1 [(0,b_ 1),(1,b_ 0),(0,t_ (.agg (cn .u32 (laid ks c ns)))),(0,t_ (.agg (cn .u8 (blockN ks c ns)))),(0,s_ 0 (.cells (cn .u8 (List.replicate 64 0)) 245)),(0,b_ 0)] 0 [6,7] [] (⟨rfl,((cZ _ _).trans hks.len),rfl,((cZ _ _).trans hns.len),(cP en_laid (laid_any ks ns c ⟨hks.len,hks.lt⟩ ⟨hns.len,hns.lt⟩) _),(cP en_cblk (cblk_any (laid ks c ns) H) _),(by kernel_rfl),fun bb=>⟨rfl,((cZ _ _).trans (List.length_replicate ..)),((cZ _ _).trans (blockW_len _)),(cn_one _ _),rfl,fun _ _ FF2 MM2=>tN ?_⟩⟩))
 refine wp_seq (rg_c FF2 MM2 [(1,l_ 0 (sB (blockN ks c ns)))] 8 [] [] (⟨by decide,by decide,by decide,rfl,(str_all (blockW_len _) (blockW_lt _)),fun _ _ FF3 MM3=>tN ?_⟩))
 refine wp_ret ?_
 repeat first | refine tR ?_ | refine iR ?_
 exact(ret_fr FF3 0 Tryz.results143 rfl ⟨rfl,MM3.below⟩)
theorem cturn_any (X B:List Nat)(hX:∀i,X.getD i 0<256)(hBl:B.length=64)(hB:∀i,B.getD i 0<256)(b f n cap j:Nat)(fr:Nat×Nat)(hn:f+n≤X.length)(hfr:∀i,i<min 64 n→fr.2=0∨f+i<fr.1)(L:Blks)(hj:L[j]? = some (b,.cells (cn .u8 X) 5 fr))(w0:World)(H:Has w0 L) :
  Calls Tryz.prog 141 #[.slice (some ⟨b,f,none⟩) n cap,.agg (cn .u8 B)] w0 fun e w'=>e=.returned (.tuple #[])∧Post w0 w' L ⟨fun _=>.tuple #[],none,[(j,.cells (cn .u8 (xorTo X f B (min 64 n))) 5 fr)]⟩ 0:=by
 have MM:=MemS.start1 (H j _ hj)
 refine eF Tryz.func141 rfl Tryz.ntmps141 (by simp) fun ac (FF:Fr 21 ac [(0,.slice (some ⟨b,f,none⟩) n cap),(1,.agg (cn .u8 B))])=>?_
 refine wp_seq (rg_c FF MM [(0,s_ 0 (.cells (cn .u8 B) 245))] 1 [3] [] (⟨(by kernel_rfl),fun bb=>fun _ _ FF1 MM1=>tN ?_⟩))
 obtain⟨m,hm⟩:∃z,min 64 n=z:=⟨_,rfl⟩
 refine wp_seq (rg_c FF1 MM1 [(2,f_ (iN m))] 4 [7,8] [] (⟨(min_ok (t:=3) (u:=3) (x:=(.const (iN 64))) (y:=(.tmp 6)) (k:=.i64) (m:=64) (n:=n) (r:=m) (by kernel_rfl) rfl rfl hm),fun _ _ FF2 MM2=>tN ?_⟩))
 have MMr5:MemS _ _ _ [_,(b,.cells (cn .u8 (xorTo X f B 0)) 5 fr)] _:=MM2
 refine wp_for (fun a' w'=>∃i:Nat,i≤m∧Fr 21 a' [(8,iN i),(7,iN m),(3,pT bb),(0,.slice (some ⟨b,f,none⟩) n cap)]∧MemS (fun k=>k<w0.heap.size∧k≠b) w0 w' [(bb,.cells (cn .u8 B) 245),(b,.cells (cn .u8 (xorTo X f B i)) 5 fr)] []) (fun a' _=>(m-cnt 8 a').toNat) ⟨0,Nat.zero_le _,FF2.pick [0,1,2,3],MMr5⟩ ?_
 rintro ac3 wd3 ⟨i,hi,FF3,MM3⟩
 have hc:=cnt_of (FF3.get 0 rfl)
 refine rg_c FF3 MM3 [] 9 [9] [] (fun _ _ FF4 MM4=>?_)
 by_cases hlt:i<m
 ·skip
  refine tN (.inl ⟨(FF4.ev 0 rfl).trans (dec_t hlt),?_⟩)
  refine wp_seq (rg_c FF4 MM4 [] 9 [] [] (fun _ _ FF5 MM5=>tN ?_))
  refine rg_dc 9 FF5 MM5 [(3,l_ 1 (iB (X.getD (f+i) 0))),(1,w_ 1),(0,l_ 0 (iB (B.getD i 0)))] [(0,s_ 1 (.cells (cn .u8 (xorTo X f B (i+1))) 5))] 9 [] [] (⟨by omega,rfl,((cn_get _ _ _ (by rw [xorTo_len];omega)).trans (congrArg some (vI ((xorTo_get X f B (f+i) i (by omega)).trans (if_neg (by omega)))))),by omega,rfl,(cn_get _ _ _ (by rw [hBl];omega)),(hX (f+i)),(hB i),by omega,rfl,(by rw [cZ,(xorTo_len _ _ _ _)];omega),(hfr i (by omega)),(cn_set _ _ _ _),fun _ _ FF6 MM6=>?_⟩)
  refine inb_n (tN ?_)
  refine rg_c FF6 MM6 [] 9 [] [] (⟨by omega,fun _ _ FF7 MM7=>?_⟩)
  have hd:=cnt_of (FF7.get 0 rfl)
  refine tN ⟨⟨i+1,by omega,FF7.pick [0,2,3,4],MM7⟩,?_⟩
  rw [hc,hd];omega
 ·skip
  refine tN (.inr ⟨(FF4.ev 0 rfl).trans (dec_f hlt),?_⟩)
  obtain rfl:m=i:=by omega
  subst hm
  exact(end_none FF4 Tryz.results141 ⟨rfl,MM4.post1 1 rfl hj⟩)
theorem laid_len (ks:List Nat)(c:Nat)(ns:List Nat):(laid ks c ns).length=16:=rfl
theorem sl_eq {b o o' n n' c c':Nat}(h1:o=o')(h2:n=n')(h3:c=c'):Value.slice (some ⟨b,o,none⟩) n c=Value.slice (some ⟨b,o',none⟩) n' c':=by subst h1 h2 h3;rfl
theorem mask_str {ks ns X:List Nat}{c q k:Nat}(hX:∀i,X.getD i 0<256)(h:X.length≤64*k):StrAt (cn .u8 (mTo ks c ns (X++List.replicate q 0) X.length k)) 0 X.length (bs (maskN ks c ns X)):=by
 have h1:=str_part (X:=mTo ks c ns (X++List.replicate q 0) X.length k) (n:=X.length+q) (off:=0) (len:=X.length) ((mTo_len _ _ _ _ _ _).trans (rep_len _ _)) (mTo_lt ks c ns _ X.length (by rw [rep_len];omega) (rep_lt hX q) k) (by omega)
 rwa [List.drop_zero,mTo_all _ _ _ _ _ _ h]at h1
set_option maxHeartbeats 1000000 in
theorem Mask_any (ks ns X:List Nat)(c:Nat)(hks:Bytes 32 ks)(hc:c<4294967296)(hns:Bytes 12 ns)(hX:∀i,X.getD i 0<256)(w0:World) :
  Calls Tryz.prog 114 #[.agg (cn .u8 ks),.int .u32 (c:Nat),.agg (cn .u8 ns),sB X] w0 fun e w'=>e=.returned (sB (maskN ks c ns X))∧Below w0.heap.size w0 w':=by
 refine eF Tryz.func114 rfl Tryz.ntmps114 (by simp) fun ac (FF:Fr 37 ac [(0,.agg (cn .u8 ks)),(1,.int .u32 (c:Nat)),(2,.agg (cn .u8 ns)),(3,sB X)])=>?_
 have MM:=MemS.start w0
 have HW:∀k,Words (laid ks ((c+k)%4294967296) ns):=fun k=>laid_words hks (Nat.mod_lt _ (by decide)) hns
 refine wp_seq (rg_c FF MM [(0,s_ 0 (.cells (cn .u8 ks) 52)),(0,s_ 0 (.cells (cn .u8 ns) 124)),(0,t_ (sB []))] 9 [] [0,2] (⟨(by kernel_rfl),fun bk=>⟨(by kernel_rfl),fun bn=>⟨(by kernel_rfl),fun _ _ FF1 MM1=>tN ?_⟩⟩⟩))
 refine wp_seq (wp_region_list ?_)
 refine rp_c 1 FF1 MM1 [] 13 [] [3] (fun _ _ FF2 MM2=>?_)
 refine st_new [8,6,4,1,13] FF2 MM2 (d:=13) (bytes_ok (e:=5) (x:=(.tmp 12)) (by kernel_rfl) rfl hX Tryz.underlying9 Tryz.underlying77 Tryz.underlying5) rfl rfl (by decide) fun ac4 wd4 bo cz3 FF4 MM4=>?_
 refine rp_c 1 FF4 MM4 [] 9 [9] [] (fun _ _ FF5 MM5=>?_)
 refine wpl_nil (tN ?_)
 have MMr9:MemS _ _ _ [(bo,.cells (cn .u8 (mTo ks c ns (X++List.replicate cz3 0) X.length 0)) 5 (X.length+cz3,X.length+cz3+1)),_,_] _:=MM5
 refine wp_seq (rg_c FF5 MMr9 [(0,b_ 2),(1,b_ 1),(0,t_ (.agg (cn .u32 (laid ks c ns)))),(0,s_ 0 (.cells (cn .u32 (List.replicate 16 0)) 242)),(0,b_ 0)] 0 [9,8,10] [] (⟨rfl,((cZ _ _).trans hks.len),rfl,((cZ _ _).trans hns.len),(cP en_laid (laid_any ks ns c ⟨hks.len,hks.lt⟩ ⟨hns.len,hns.lt⟩) _),(by kernel_rfl),fun bw=>⟨rfl,((cZ _ _).trans (List.length_replicate ..)),((cZ _ _).trans rfl),(cn_one _ _),rfl,fun _ _ FF6 MM6=>tN ?_⟩⟩))
 have MMr11:MemS _ _ _ [(bw,.cells (cn .u32 (laid ks ((c+0)%4294967296) ns)) 242),_,_,_] _:=MM6.eqA 0 rfl (by rw [show(c+0)%4294967296=c by omega] <;> rfl)
 refine wp_seq ?_
 refine wp_seq (rg_c FF6 MMr11 [(0,t_ (.slice (some ⟨bo,0,none⟩) (X.length-min (64*0) X.length) (X.length+cz3-min (64*0) X.length)))] 12 [] [] (⟨(sl_eq (by omega) (by omega) (by omega)),fun _ _ FF7 MM7=>tN ?_⟩))
 refine wp_for2 (fun a' w'=>∃k:Nat,∃o:Nat,(64*k<X.length→o=64*k)∧Fr 37 a' [(11,.slice (some ⟨bo,o,none⟩) (X.length-min (64*k) X.length) (X.length+cz3-min (64*k) X.length)),(10,pT bw),(9,.slice (some ⟨bo,0,none⟩) X.length (X.length+cz3)),(8,sB [])]∧MemS (fun k=>k<w0.heap.size) w0 w' [(bw,.cells (cn .u32 (laid ks ((c+k)%4294967296) ns)) 242),(bo,.cells (cn .u8 (mTo ks c ns (X++List.replicate cz3 0) X.length k)) 5 (X.length+cz3,X.length+cz3+1)),(bn,.cells (cn .u8 ns) 124),(bk,.cells (cn .u8 ks) 52)] []) (fun a' _=>lenAt 11 a') ⟨0,0,(fun _=>by omega),FF7.pick [0,1,2,3],MM7⟩ ?_
 rintro ac8 wd8 ⟨k,o,ho,FF8,MM8⟩
 have hc1:=lenAt_of (FF8.get 0 rfl)
 refine rg_c FF8 MM8 [] 12 [21] [] (fun _ _ FF9 MM9=>?_)
 by_cases hlt:(X.length-min (64*k) X.length)>0
 ·skip
  refine tN (.inl ⟨(FF9.ev 0 rfl).trans (dec_t hlt),?_⟩)
  obtain rfl:o=min (64*k) X.length:=by omega
  refine wp_seq (rg_c FF9 MM9 [(1,b_ 0),(0,t_ (.agg (cn .u8 (blockN ks ((c+k)%4294967296) ns)))),(0,c_ (.tuple #[]) [(1,.cells (cn .u8 (xorTo (mTo ks c ns (X++List.replicate cz3 0) X.length k) (min (64*k) X.length) (blockN ks ((c+k)%4294967296) ns) (min 64 (X.length-min (64*k) X.length)))) 5 (X.length+cz3,X.length+cz3+1))])] 12 [] [] (⟨rfl,((cZ _ _).trans (laid_len ks ((c+k)%4294967296) ns)),(cP en_cblk (cblk_any (laid ks ((c+k)%4294967296) ns) (HW k)) _),⟨en_cturn,fun w H=>cturn_any (mTo ks c ns (X++List.replicate cz3 0) X.length k) (blockN ks ((c+k)%4294967296) ns) (mTo_lt ks c ns _ X.length (by rw [rep_len];omega) (rep_lt hX cz3) k) (blockW_len _) (blockW_lt _) _ _ _ _ 1 _ (by rw [mTo_len,rep_len];omega) (fun i hi=>.inr (show _<X.length+cz3 by omega)) _ rfl w H⟩,fun _ _ FF10 MM10=>tN ?_⟩))
  have MMr23:MemS _ _ _ [_,(bo,.cells (cn .u8 (mTo ks c ns (X++List.replicate cz3 0) X.length (k+1))) 5 (X.length+cz3,X.length+cz3+1)),_,_] _:=MM10
  refine rg_c FF10 MMr23 [(0,w_ 1),(0,l_ 0 (.int .u32 ((c+k)%4294967296:Nat))),(0,t_ (.int .u32 ((c+(k+1))%4294967296:Nat))),(0,w_ 1),(0,s_ 0 (.cells (cn .u32 (laid ks ((c+(k+1))%4294967296) ns)) 242))] 12 [] [] (⟨by decide,rfl,rfl,(vI (by omega)),by decide,rfl,(by rw [cZ,(laid_len ks ((c+k)%4294967296) ns)];decide),(.inl rfl),(cn_set _ _ _ _),fun _ _ FF11 MM11=>?_⟩)
  refine inb_n (tN ?_)
  by_cases hq:min 64 (X.length-min (64*k) X.length)<X.length+cz3-min (64*k) X.length
  ·skip
   refine rg_c FF11 MM11 [(3,f_ (iN (min 64 (X.length-min (64*k) X.length)))),(0,t_ (.slice (some ⟨bo,min (64*k) X.length+min 64 (X.length-min (64*k) X.length),none⟩) (X.length-min (64*(k+1)) X.length) (X.length+cz3-min (64*(k+1)) X.length)))] 12 [] [] (⟨(min_ok (t:=3) (u:=3) (x:=(.const (iN 64))) (y:=(.tmp 24)) (k:=.i64) (m:=64) (n:=X.length-min (64*k) X.length) (r:=min 64 (X.length-min (64*k) X.length)) (by kernel_rfl) rfl rfl rfl),by omega,by omega,by omega,(sl_eq rfl (by omega) (by omega)),fun _ _ FF12 MM12=>?_⟩)
   have hd1:=lenAt_of (FF12.get 0 rfl)
   refine tN ⟨⟨k+1,min (64*k) X.length+min 64 (X.length-min (64*k) X.length),(fun _=>by omega),FF12.pick [0,1,2,3],MM12⟩,?_⟩
   rw [hc1,hd1];omega
  ·skip
   refine rg_c FF11 MM11 [(3,f_ (iN (min 64 (X.length-min (64*k) X.length)))),(0,u_ 1 (.slice (some ⟨bo,min (64*k) X.length,none⟩) (X.length-min (64*(k+1)) X.length) (X.length+cz3-min (64*(k+1)) X.length)))] 12 [] [] (⟨(min_ok (t:=3) (u:=3) (x:=(.const (iN 64))) (y:=(.tmp 24)) (k:=.i64) (m:=64) (n:=X.length-min (64*k) X.length) (r:=min 64 (X.length-min (64*k) X.length)) (by kernel_rfl) rfl rfl rfl),by omega,by omega,by omega,(sl_eq rfl (by omega) (by omega)),fun _ _ FF13 MM13=>?_⟩)
   have hd1:=lenAt_of (FF13.get 0 rfl)
   refine tN ⟨⟨k+1,min (64*k) X.length,(fun _=>by omega),FF13.pick [0,1,2,3],MM13⟩,?_⟩
   rw [hc1,hd1];omega
 ·skip
  refine tN (.inr ⟨(FF9.ev 0 rfl).trans (dec_f hlt),?_⟩)
  refine tN ?_
  refine wp_seq (rg_c FF9 MM9 [(1,l_ 1 (sB (maskN ks c ns X)))] 12 [] [] (⟨rfl,(mask_str hX (by omega)),fun _ _ FF14 MM14=>tN ?_⟩))
  refine wp_ret ?_
  repeat first | refine tR ?_ | refine iR ?_
  exact(ret_fr FF14 0 Tryz.results114 rfl ⟨rfl,MM14.below⟩)
end Go.Proofs.YtdokjecjiifciaaGreatDoor
