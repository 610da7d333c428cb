import Derived.Test.YtdokjecjiifciaaGreatDoorZ7
import Derived.Test.YtdokjecjiifciaaGreatDoorZ3
import Derived.ChangeMaps4
import Derived.Test.YtdokjecjiifciaaGreatDoorZ4
import Derived.Shelf.Strings.Repeat
namespace Go.Proofs.YtdokjecjiifciaaGreatDoor
open Go.RowKit
set_option maxRecDepth 100000
theorem en_Seal:Enters Tryz.prog 78:=fun args w=>by simp [go_sem]
theorem en_Open:Enters Tryz.prog 97:=fun args w=>by simp [go_sem]
theorem en_atag:Enters Tryz.prog 115:=fun args w=>by simp [go_sem]
theorem en_missing:Enters Tryz.prog 145:=fun args w=>by simp [go_sem]
theorem en_length:Enters Tryz.prog 146:=fun args w=>by simp [go_sem]
theorem en_Mask:Enters Tryz.prog 114:=fun args w=>by simp [go_sem]
theorem en_Block:Enters Tryz.prog 143:=fun args w=>by simp [go_sem]
theorem en_Sum:Enters Tryz.prog 144:=fun args w=>by simp [go_sem]
theorem missing_any (X:List Nat)(_hX:∀i,X.getD i 0<256)(w0:World) :
  Calls Tryz.prog 145 #[sB X] w0 fun e w'=>e=.returned (sB (missN X))∧Below w0.heap.size w0 w':=by
 refine eF Tryz.func145 rfl Tryz.ntmps145 (by simp) fun ac (FF:Fr 12 ac [(0,sB X)])=>?_
 have MM:=MemS.start w0
 refine wp_seq (rg_c FF MM [(0,t_ (sB []))] 3 [] [] (⟨(by kernel_rfl),fun _ _ FF1 MM1=>tN ?_⟩))
 refine wp_seq (rg_c FF1 MM1 [(1,t_ (iN X.length))] 4 [] [0] (⟨(vI (bs_size _)),by decide,fun _ _ FF2 MM2=>tN ?_⟩))
 refine wp_seq ?_
 refine wp_seq (rg_c FF2 MM2 [] 4 [8] [] (fun _ _ FF3 MM3=>tN ?_))
 by_cases hs8:(X.length%16)=0
 ·refine wp_cond_true ((FF3.ev 0 rfl).trans (dec_t hs8)) ?_
  refine wp_seq (rg_c FF3 MM3 [(0,t_ (sB (missN X)))] 4 [] [] (⟨(Eq.trans (show _=sB []by kernel_rfl) (vS (by rw [missN,hs8];rfl))),fun _ _ FF4 MM4=>tN ?_⟩))
  refine wp_ret ?_
  repeat first | refine tR ?_ | refine iR ?_
  exact(ret_fr FF4 0 Tryz.results145 rfl ⟨rfl,MM4.below⟩)
 ·refine wp_cond_false ((FF3.ev 0 rfl).trans (dec_f hs8)) ?_
  refine wp_skip ?_
  refine tN ?_
  refine wp_seq (rg_c FF3 MM3 [(2,t_ (sB (missN X)))] 4 [] [] (⟨by omega,by omega,(Nat.zero_le _),(by show _≤15;omega),(vS2 ((bs_extract _ _ _).trans (congrArg bs ((noughts_cut (by omega)).trans (by rw [missN,Nat.mod_eq_of_lt (show 16-X.length%16<16 by omega)]))))),fun _ _ FF5 MM5=>tN ?_⟩))
  refine wp_ret ?_
  repeat first | refine tR ?_ | refine iR ?_
  exact(ret_fr FF5 0 Tryz.results145 rfl ⟨rfl,MM5.below⟩)
theorem length_any (X:List Nat)(hl:X.length<4611686018427387904)(w0:World) :
  Calls Tryz.prog 146 #[sB X] w0 fun e w'=>e=.returned (sB (leB 8 X.length))∧Below w0.heap.size w0 w':=by
 refine eF Tryz.func146 rfl Tryz.ntmps146 (by simp) fun ac (FF:Fr 20 ac [(0,sB X)])=>?_
 have MM:=MemS.start w0
 refine wp_seq (rg_c FF MM [(0,t_ (sB []))] 3 [] [] (⟨(by kernel_rfl),fun _ _ FF1 MM1=>tN ?_⟩))
 refine wp_seq (rg_c FF1 MM1 [(0,s_ 0 (.cells (cn .u8 (List.replicate 8 0)) 205))] 4 [] [] (⟨(by kernel_rfl),fun bo=>fun _ _ FF2 MM2=>tN ?_⟩))
 have MMr4:MemS _ _ _ [(bo,.cells (cn .u8 (genL 8 (fun i=>X.length/256^i%256) 0)) 205)] _:=MM2.eqA 0 rfl (by rw [←genL_zero 8 (fun i=>X.length/256^i%256)] <;> rfl)
 refine wp_seq ?_
 refine wp_seq (rg_c FF2 MMr4 [] 6 [] [] (fun _ _ FF3 MM3=>tN ?_))
 refine wp_for (fun a' w'=>∃j:Nat,j≤8∧Fr 20 a' [(5,iN j),(3,pT bo),(2,sB []),(0,sB X)]∧MemS (fun k=>k<w0.heap.size) w0 w' [(bo,.cells (cn .u8 (genL 8 (fun i=>X.length/256^i%256) j)) 205)] []) (fun a' _=>(8-cnt 5 a').toNat) ⟨0,by omega,FF3.pick [0,1,2,3],MM3⟩ ?_
 rintro ac4 wd4 ⟨j,hj,FF4,MM4⟩
 have hcj:=cnt_of (FF4.get 0 rfl)
 refine rg_c FF4 MM4 [] 7 [] [] (fun _ _ FF5 MM5=>?_)
 by_cases hltj:j<8
 ·skip
  refine tN (.inl ⟨(FF5.ev 0 rfl).trans (dec_t hltj),?_⟩)
  refine wp_seq (rg_c FF5 MM5 [] 6 [] [] (fun _ _ FF6 MM6=>tN ?_))
  refine rg_c FF6 MM6 [(2,t_ (iN X.length)),(0,w_ 1),(4,w_ 1),(0,s_ 0 (.cells (cn .u8 (genL 8 (fun i=>X.length/256^i%256) (j+1))) 205))] 6 [] [] (⟨(vI (bs_size _)),by omega,by omega,(by show _≤64;omega),by omega,rfl,(by rw [cZ,(genL_len _ _ _)];omega),(.inl rfl),((cn_set _ _ _ _).trans (congrArg _ (genL_step _ _ j (by omega) (by rw [Nat.pow_mul])))),fun _ _ FF7 MM7=>?_⟩)
  refine inb_n (tN ?_)
  refine rg_c FF7 MM7 [] 6 [] [] (⟨by omega,fun _ _ FF8 MM8=>?_⟩)
  have hdj:=cnt_of (FF8.get 0 rfl)
  refine tN ⟨⟨j+1,by omega,FF8.pick [0,2,3,4],MM8⟩,?_⟩
  rw [hcj,hdj];omega
 ·skip
  refine tN (.inr ⟨(FF5.ev 0 rfl).trans (dec_f hltj),?_⟩)
  obtain rfl:j=8:=by omega
  have MMl:MemS _ _ _ [(bo,.cells (cn .u8 (leB 8 X.length)) 205)] _:=MM5.eqA 0 rfl (by rw [←gen_leB8 8 X.length] <;> rfl)
  refine tN ?_
  refine wp_seq (rg_c FF5 MMl [(1,l_ 0 (sB (leB 8 X.length)))] 6 [] [] (⟨by decide,by decide,by decide,rfl,(str_all (leB_len _ _) (leB_lt 8 X.length)),fun _ _ FF9 MM9=>tN ?_⟩))
  refine wp_ret ?_
  repeat first | refine tR ?_ | refine iR ?_
  exact(ret_fr FF9 0 Tryz.results146 rfl ⟨rfl,MM9.below⟩)
theorem six_lt {A B C D E F:List Nat}(h1:∀i,A.getD i 0<256)(h2:∀i,B.getD i 0<256)(h3:∀i,C.getD i 0<256)(h4:∀i,D.getD i 0<256)(h5:∀i,E.getD i 0<256)(h6:∀i,F.getD i 0<256):∀V∈[A,B,C,D,E,F],∀i,V.getD i 0<256:=fun V hV=>by
 simp only [List.mem_cons,List.not_mem_nil,or_false]at hV
 rcases hV with rfl | rfl | rfl | rfl | rfl | rfl <;> assumption
theorem six_at (A B C D E F:List Nat):∀j,j < [A,B,C,D,E,F].length→(#[sB A,sB B,sB C,sB D,sB E,sB F]:Array Value)[j]? = some (sB ([A,B,C,D,E,F].getD j [])):=fun j h=>by
 have:j=0∨j=1∨j=2∨j=3∨j=4∨j=5:=by simp at h;omega
 rcases this with rfl | rfl | rfl | rfl | rfl | rfl <;> rfl
theorem atag_any (K N:List Nat)(hK:Bytes 32 K)(hN:Bytes 12 N)(E C:List Nat)(hE:∀i,E.getD i 0<256)(hC:∀i,C.getD i 0<256)(hl:E.length<4611686018427387904)(hl2:C.length<4611686018427387904)(w0:World) :
  Calls Tryz.prog 115 #[.agg (cn .u8 K),.agg (cn .u8 N),sB E,sB C] w0 fun e w'=>e=.returned (.agg (cn .u8 (tagA K N E C)))∧Below w0.heap.size w0 w':=by
 refine eF Tryz.func115 rfl Tryz.ntmps115 (by simp) fun ac (FF:Fr 30 ac [(0,.agg (cn .u8 K)),(1,.agg (cn .u8 N)),(2,sB E),(3,sB C)])=>?_
 have MM:=MemS.start w0
 refine wp_seq (rg_c FF MM [(0,s_ 0 (.cells (cn .u8 K) 52)),(0,s_ 0 (.cells (cn .u8 N) 124)),(0,s_ 0 (.cells (cn .u8 (List.replicate 16 0)) 207))] 9 [] [0,1] (⟨(by kernel_rfl),fun bk=>⟨(by kernel_rfl),fun bn=>⟨(by kernel_rfl),fun bt=>fun _ _ FF1 MM1=>tN ?_⟩⟩⟩))
 refine wp_seq (wp_region_list ?_)
 refine rp_c 4 FF1 MM1 [(0,b_ 2),(0,b_ 1),(0,t_ (sB (blockN K 0 N))),(0,t_ (sB (onceN K N)))] 4 [8,13] [] (⟨rfl,((cZ _ _).trans hK.len),rfl,((cZ _ _).trans hN.len),(cP en_Block (Block_any K N 0 ⟨hK.len,hK.lt⟩ (by decide) ⟨hN.len,hN.lt⟩) _),(Nat.zero_le _),(by rw [bs_size,show(blockN K 0 N).length=64 from(blockW_len _)];omega),(vS2 ((bs_extract _ _ _).trans (congrArg bs (List.drop_zero ..)))),fun _ _ FF2 MM2=>?_⟩)
 refine st_new [8,2,3,14] FF2 MM2 (d:=14) (bytes_ok (e:=5) (x:=(.tmp 13)) (by kernel_rfl) rfl (onceN_bytes K N).lt Tryz.underlying9 Tryz.underlying77 Tryz.underlying5) rfl rfl (by decide) fun ac4 wd4 bz cz3 FF4 MM4=>?_
 refine rp_c 4 FF4 MM4 [(1,l_ 0 (.agg (cn .u8 (onceN K N)))),(0,s_ 0 (.cells (cn .u8 (List.replicate 32 0)) 52)),(0,b_ 0)] 9 [9] [] (⟨(by rw [(onceN_bytes K N).len];decide),rfl,(part_rep _ _),((cZ _ _).trans (onceN_bytes K N).len),(by kernel_rfl),fun bo=>⟨rfl,((cZ _ _).trans (List.length_replicate ..)),((cZ _ _).trans (onceN_bytes K N).len),(cn_one _ _),rfl,fun _ _ FF5 MM5=>?_⟩⟩)
 refine wpl_nil (tN ?_)
 refine wp_seq (rg_draw FF5 MM5 [.inl (.agg (cn .u8 (onceN K N))),.inl (sB E),.inl (sB E),.inl (sB (missN E)),.inl (sB C),.inl (sB C),.inl (sB (missN C)),.inl (sB E),.inl (sB (leB 8 E.length)),.inl (sB C),.inl (sB (leB 8 C.length)),.inr (oC #[sB E,sB (missN E),sB C,sB (missN C),sB (leB 8 E.length),sB (leB 8 C.length)] 9,fun b=>.slice (some ⟨b,0,none⟩) 6 6),.inl (.agg (cn .u8 (tagA K N E C)))] [] [b_ 0,o_,o_,t_ (sB (missN E)),o_,o_,t_ (sB (missN C)),o_,t_ (sB (leB 8 E.length)),o_,t_ (sB (leB 8 C.length)),o_,u_ 1 (.agg (cn .u8 (tagA K N E C)))] [b_ 2] [9,8] (fun nb=>[bo=bo,(cn .u8 (onceN K N)).size=32,CallP Tryz.prog 145 [sB E] [] (sB (missN E)),CallP Tryz.prog 145 [sB C] [] (sB (missN C)),CallP Tryz.prog 146 [sB E] [] (sB (leB 8 E.length)),CallP Tryz.prog 146 [sB C] [] (sB (leB 8 C.length)),CallP Tryz.prog 144 [.agg (cn .u8 (onceN K N)),.slice (some ⟨(nb 11),0,none⟩) 6 6] [((nb 11),oC #[sB E,sB (missN E),sB C,sB (missN C),sB (leB 8 E.length),sB (leB 8 C.length)] 9),(bo,.cells (cn .u8 (onceN K N)) 52),(bz,.cells (cn .u8 ((onceN K N)++List.replicate cz3 0)) 5 ((onceN K N).length+cz3,(onceN K N).length+cz3+1)),(bt,.cells (cn .u8 (List.replicate 16 0)) 207),(bn,.cells (cn .u8 N) 124),(bk,.cells (cn .u8 K) 52)] (.agg (cn .u8 (tagA K N E C)))]) (fun nb Kt=>bt=bt∧(cn .u8 (List.replicate 16 0)).size=16∧(cn .u8 (tagA K N E C)).size=16∧(cn .u8 (tagA K N E C)).all (·.oneCell')=true∧(0,0).2=0∧Kt [(9,pT bo),(8,pT bt)] [(bo,.cells (cn .u8 (onceN K N)) 52),(bz,.cells (cn .u8 ((onceN K N)++List.replicate cz3 0)) 5 ((onceN K N).length+cz3,(onceN K N).length+cz3+1)),(bt,.cells (cn .u8 (tagA K N E C)) 207),(bn,.cells (cn .u8 N) 124),(bk,.cells (cn .u8 K) 52)]) (by kernel_rfl) (by kernel_rfl) (by kernel_rfl) (fun _=>by kernel_rfl) (fun _ _=>by kernel_rfl) trivial (fun nb=>⟨rfl,((cZ _ _).trans (onceN_bytes K N).len),(cP en_missing (missing_any E hE) _),(cP en_missing (missing_any C hC) _),(cP en_length (length_any E (by omega)) _),(cP en_length (length_any C (by omega)) _),⟨en_Sum,fun w H=>by have h0:=sum_any _ (onceN_bytes K N) [E,missN E,C,missN C,leB 8 E.length,leB 8 C.length] (six_lt hE (missN_lt E) hC (missN_lt C) (leB_lt 8 _) (leB_lt 8 _)) (by simp) _ 6 _ _ _ (six_at _ _ _ _ _ _) w (H 0 _ rfl);rw [tagT_flat]at h0;exact h0⟩,trivial⟩) (fun nb=>⟨rfl,((cZ _ _).trans (List.length_replicate ..)),((cZ _ _).trans (tagA_len _ _ _ _)),(cn_one _ _),rfl,fun _ _ FF6 MM6=>tN ?_⟩))
 refine wp_ret ?_
 repeat first | refine tR ?_ | refine iR ?_
 exact(retc FF6 MM6 (k:=16) (i:=2) (j:=1) Tryz.results115 rfl rfl Tryz.underlying207 rfl (by kernel_rfl) ((cZ _ _).trans (tagA_len _ _ _ _)) ⟨rfl,MM6.below⟩)
theorem seal_any (K N:List Nat)(hK:Bytes 32 K)(hN:Bytes 12 N)(E X:List Nat)(hE:∀i,E.getD i 0<256)(hX:∀i,X.getD i 0<256)(hl:E.length<4611686018427387904)(hl2:X.length<4611686018427387904)(w0:World) :
  Calls Tryz.prog 78 #[.agg (cn .u8 K),.agg (cn .u8 N),sB E,sB X] w0 fun e w'=>e=.returned (sB (sealN K N E X))∧Below w0.heap.size w0 w':=by
 refine eF Tryz.func78 rfl Tryz.ntmps78 (by simp) fun ac (FF:Fr 24 ac [(0,.agg (cn .u8 K)),(1,.agg (cn .u8 N)),(2,sB E),(3,sB X)])=>?_
 have MM:=MemS.start w0
 refine wp_seq (rg_c FF MM [(0,s_ 0 (.cells (cn .u8 K) 52)),(0,s_ 0 (.cells (cn .u8 N) 124)),(0,t_ (sB []))] 9 [] [0,1] (⟨(by kernel_rfl),fun bk=>⟨(by kernel_rfl),fun bn=>⟨(by kernel_rfl),fun _ _ FF1 MM1=>tN ?_⟩⟩⟩))
 refine wp_seq (rg_c FF1 MM1 [(0,b_ 1),(0,b_ 0),(1,t_ (sB (maskN K 1 N X)))] 9 [9] [3] (⟨rfl,((cZ _ _).trans hK.len),rfl,((cZ _ _).trans hN.len),(cP en_Mask (Mask_any K N X 1 ⟨hK.len,hK.lt⟩ (by decide) ⟨hN.len,hN.lt⟩ hX) _),fun _ _ FF2 MM2=>tN ?_⟩))
 refine wp_seq (rg_c FF2 MM2 [(0,b_ 1),(0,b_ 0),(2,t_ (.agg (cn .u8 (tagA K N E (maskN K 1 N X))))),(0,s_ 0 (.cells (cn .u8 (List.replicate 16 0)) 207)),(0,b_ 0)] 11 [] [2] (⟨rfl,((cZ _ _).trans hK.len),rfl,((cZ _ _).trans hN.len),(cP en_atag (atag_any K N ⟨hK.len,hK.lt⟩ ⟨hN.len,hN.lt⟩ E (maskN K 1 N X) hE (maskN_lt _ _ _ _ hX) (by omega) (by rw [maskN_len];omega)) _),(by kernel_rfl),fun bt=>⟨rfl,((cZ _ _).trans (List.length_replicate ..)),((cZ _ _).trans (tagA_len _ _ _ _)),(cn_one _ _),rfl,fun _ _ FF3 MM3=>tN ?_⟩⟩))
 refine wp_seq (rg_c FF3 MM3 [(2,l_ 0 (sB (tagA K N E (maskN K 1 N X)))),(0,t_ (sB (sealN K N E X)))] 11 [] [] (⟨by decide,by decide,by decide,rfl,(str_all (tagA_len _ _ _ _) (tagA_lt _ _ _ _)),(by rw [bs_size,bs_size,maskN_len,tagA_len];omega),(vS2 (bs_app _ _)),fun _ _ FF4 MM4=>tN ?_⟩))
 refine wp_ret ?_
 repeat first | refine tR ?_ | refine iR ?_
 exact(ret_fr FF4 0 Tryz.results78 rfl ⟨rfl,MM4.below⟩)
theorem open_yes (K N:List Nat)(hK:Bytes 32 K)(hN:Bytes 12 N)(E Z:List Nat)(hE:∀i,E.getD i 0<256)(hZ:∀i,Z.getD i 0<256)(hl:E.length<4611686018427387904)(hl2:Z.length<4611686018427387904)(h16:16≤Z.length)(ho:opensN K N E Z)(w0:World) :
  Calls Tryz.prog 97 #[.agg (cn .u8 K),.agg (cn .u8 N),sB E,sB Z] w0 fun e w'=>e=.returned (.tuple #[sB (plainN K N Z),.bool true])∧Below w0.heap.size w0 w':=by
 refine eF Tryz.func97 rfl Tryz.ntmps97 (by simp) fun ac (FF:Fr 38 ac [(0,.agg (cn .u8 K)),(1,.agg (cn .u8 N)),(2,sB E),(3,sB Z)])=>?_
 have MM:=MemS.start w0
 refine wp_seq (rg_c FF MM [(0,s_ 0 (.cells (cn .u8 K) 52)),(0,s_ 0 (.cells (cn .u8 N) 124)),(0,t_ (sB []))] 9 [9] [0,1] (⟨(by kernel_rfl),fun bk=>⟨(by kernel_rfl),fun bn=>⟨(by kernel_rfl),fun _ _ FF1 MM1=>tN ?_⟩⟩⟩))
 refine wp_seq (rg_c FF1 MM1 [(1,t_ (iN Z.length))] 11 [] [] (⟨(vI (bs_size _)),by omega,by omega,fun _ _ FF2 MM2=>tN ?_⟩))
 refine wp_seq ?_
 refine wp_seq (rg_c FF2 MM2 [(1,w_ 3)] 11 [17] [] (⟨by omega,fun _ _ FF3 MM3=>tN ?_⟩))
 refine wp_cond_false (FF3.ev 0 rfl) ?_
 refine wp_skip ?_
 refine tN ?_
 have hdl:(Z.drop (Z.length-16)).length=16:=by simp;omega
 refine wp_seq (rg_draw2 FF3 MM3 [.inl (sB Z),.inl (iN (Z.length-16)),.inl (sB (Z.take (Z.length-16))),.inl (sB Z),.inl (iN (Z.length-16)),.inl (sB (Z.drop (Z.length-16))),.inr (fun c=>.cells (cn .u8 ((Z.drop (Z.length-16))++List.replicate c 0)) 5 ((Z.drop (Z.length-16)).length+c,(Z.drop (Z.length-16)).length+c+1),fun b c=>.slice (some ⟨b,0,none⟩) ((Z.drop (Z.length-16)).length) ((Z.drop (Z.length-16)).length+c)),.inr (fun c=>.cells (cn .u8 ((Z.drop (Z.length-16))++List.replicate c 0)) 5 ((Z.drop (Z.length-16)).length+c,(Z.drop (Z.length-16)).length+c+1),fun b c=>pT b),.inl (.agg (cn .u8 (Z.drop (Z.length-16)))),.inr (fun _=>.cells (cn .u8 (List.replicate 16 0)) 207,fun b _=>pT b),.inl (sB (Z.take (Z.length-16)))] [9] [o_,o_,t_ (sB (Z.take (Z.length-16))),o_,o_,t_ (sB (Z.drop (Z.length-16))),y_,g_ 6,l_ 0 (.agg (cn .u8 (Z.drop (Z.length-16)))),o_,o_] [b_ 0] [10,9,8,5,4,2,3,12,11] (fun nb cp=>[0≤(Z.length-16),(Z.length-16)≤(bs Z).size,Value.string ((bs Z).extract 0 (Z.length-16))=sB (Z.take (Z.length-16)),(Z.length-16)≤(bs Z).size,0≤(bs Z).size,Value.string ((bs Z).extract (Z.length-16) (bs Z).size)=sB (Z.drop (Z.length-16)),RunB Tryz.prog [(23,sB (Z.drop (Z.length-16))),(17,.bool false),(10,iN (Z.length-16)),(9,.bool false),(8,sB []),(5,pT bn),(4,pT bk),(2,sB E),(3,sB Z)] [(bn,.cells (cn .u8 N) 124),(bk,.cells (cn .u8 K) 52)] (opAt Tryz.f97 4 6) (fun c=>.cells (cn .u8 ((Z.drop (Z.length-16))++List.replicate c 0)) 5 ((Z.drop (Z.length-16)).length+c,(Z.drop (Z.length-16)).length+c+1)) (fun b c=>.slice (some ⟨b,0,none⟩) ((Z.drop (Z.length-16)).length) ((Z.drop (Z.length-16)).length+c)),16≤(Z.drop (Z.length-16)).length,pT (nb 6)=pT (nb 6),Obj.cells (cn .u8 ((Z.drop (Z.length-16))++List.replicate (cp 6) 0)) 5 ((Z.drop (Z.length-16)).length+(cp 6),(Z.drop (Z.length-16)).length+(cp 6)+1)=.cells (cn .u8 ((Z.drop (Z.length-16))++List.replicate (cp 6) 0)) 5 ((Z.drop (Z.length-16)).length+(cp 6),(Z.drop (Z.length-16)).length+(cp 6)+1),(nb 7)=(nb 7),PartAt (cn .u8 ((Z.drop (Z.length-16))++List.replicate (cp 7) 0)) 0 (cn .u8 (Z.drop (Z.length-16))),(cn .u8 (Z.drop (Z.length-16))).size=16]) (fun nb cp Kt=>(nb 9)=(nb 9)∧(cn .u8 (List.replicate 16 0)).size=16∧(cn .u8 (Z.drop (Z.length-16))).size=16∧(cn .u8 (Z.drop (Z.length-16))).all (·.oneCell')=true∧(0,0).2=0∧Kt [(11,sB (Z.take (Z.length-16))),(12,pT (nb 9)),(10,iN (Z.length-16)),(9,.bool false),(8,sB []),(5,pT bn),(4,pT bk),(2,sB E),(3,sB Z)] [((nb 9),.cells (cn .u8 (Z.drop (Z.length-16))) 207),(bn,.cells (cn .u8 N) 124),(bk,.cells (cn .u8 K) 52)]) (by kernel_rfl) (by kernel_rfl) (by kernel_rfl) (fun _ _=>by kernel_rfl) (fun _ _ _=>by kernel_rfl) ⟨⟨_,rfl⟩,rfl,trivial⟩ (by kernel_rfl) (fun nb cp=>⟨(Nat.zero_le _),(by simp only [bs_size];omega),(vS2 ((bs_extract _ _ _).trans (congrArg bs (List.drop_zero ..)))),(by simp only [bs_size];omega),(Nat.zero_le _),(vS2 (bs_from _ _)),(bytes_ok (e:=5) (x:=(.tmp 23)) (by kernel_rfl) rfl (drop_lt hZ) Tryz.underlying9 Tryz.underlying77 Tryz.underlying5),(by rw [hdl];decide),rfl,rfl,rfl,(part_rep _ _),((cZ _ _).trans hdl),trivial⟩) (fun nb cp=>⟨rfl,((cZ _ _).trans (List.length_replicate ..)),((cZ _ _).trans hdl),(cn_one _ _),rfl,fun _ _ FF4 MM4=>tN ?_⟩))
 generalize nb 9=bt at *
 refine wp_seq ?_
 refine wp_seq (rg_dc 7 FF4 MM4 [(0,b_ 0),(0,b_ 2),(0,b_ 1),(2,t_ (.agg (cn .u8 (tagA K N E (Z.take (Z.length-16)))))),(0,f_ (.bool false))] [] 13 [33] [2] (⟨rfl,((cZ _ _).trans hdl),rfl,((cZ _ _).trans hK.len),rfl,((cZ _ _).trans hN.len),(cP en_atag (atag_any K N ⟨hK.len,hK.lt⟩ ⟨hN.len,hN.lt⟩ E (Z.take (Z.length-16)) hE (take_lt hZ) (by omega) (by rw [List.length_take];omega)) _),(neqA_ok (t:=207) (t':=207) (e:=5) (m:=16) (k:=.u8) (x:=(.tmp 27)) (y:=(.tmp 32)) (by kernel_rfl) Tryz.underlying207 Tryz.underlying5 (by kernel_rfl) (by kernel_rfl) (by kernel_rfl) rfl rfl hdl (tagA_len _ _ _ _) (decide_eq_false (fun h=>h ho.2))),fun _ _ FF5 MM5=>tN ?_⟩))
 refine wp_cond_false (FF5.ev 0 rfl) ?_
 refine wp_skip ?_
 refine tN ?_
 refine wp_seq (rg_c FF5 MM5 [(0,b_ 2),(0,b_ 1),(1,t_ (sB (maskN K 1 N (Z.take (Z.length-16)))))] 13 [] [] (⟨rfl,((cZ _ _).trans hK.len),rfl,((cZ _ _).trans hN.len),(cP en_Mask (Mask_any K N (Z.take (Z.length-16)) 1 ⟨hK.len,hK.lt⟩ (by decide) ⟨hN.len,hN.lt⟩ (take_lt hZ)) _),fun _ _ FF6 MM6=>tN ?_⟩))
 refine wp_ret ?_
 repeat first | refine tR ?_ | refine iR ?_
 exact(ret_tup2 FF6 1 0 Tryz.results97 rfl rfl ⟨rfl,MM6.below⟩)
theorem en_pnew:Enters Tryz.prog 30:=fun args w=>by simp [go_sem]
theorem en_pshared:Enters Tryz.prog 19:=fun args w=>by simp [go_sem]
theorem en_pshare:Enters Tryz.prog 87:=fun args w=>by simp [go_sem]
theorem en_pshareid:Enters Tryz.prog 88:=fun args w=>by simp [go_sem]
theorem en_pKey:Enters Tryz.prog 21:=fun args w=>by simp [go_sem]
theorem en_pID:Enters Tryz.prog 46:=fun args w=>by simp [go_sem]
theorem en_pseal:Enters Tryz.prog 51:=fun args w=>by simp [go_sem]
theorem en_popen:Enters Tryz.prog 62:=fun args w=>by simp [go_sem]
theorem laidP:laidOutB Tryz.prog=true:=Tryz.laidOut
theorem key_law:MKey Tryz.prog 52 (fun X=>.agg (cn .u8 X)) (BytesK 32):=bytes_key (e:=5) (d:=320) laidP (by decide +kernel) (by decide +kernel) (by decide +kernel) (by decide +kernel) Tryz.underlying52 Tryz.underlying5 (by kernel_rfl) (by kernel_rfl)
theorem id_law:MKey Tryz.prog 95 (fun X=>.agg (cn .u8 X)) (BytesK 16):=bytes_key (e:=5) (d:=320) laidP (by decide +kernel) (by decide +kernel) (by decide +kernel) (by decide +kernel) Tryz.underlying95 Tryz.underlying5 (by kernel_rfl) (by kernel_rfl)
abbrev boxV (x:BoxK):Value:=.agg (cn .u8 x.1++cn .u8 x.2.1++#[sB x.2.2])
abbrev noteV (X:List Nat):Value:=sB X
def OkQ (pn:Notes):Prop:=(∀p∈pn,OkB p.1∧(∀i,p.2.getD i 0<256)∧p.2.length≤1000000)∧Uniq pn
abbrev NM (l:Notes):Obj:=mapO boxV noteV l
theorem box_size {x:BoxK}(h:OkB x):(cn .u8 x.1++cn .u8 x.2.1++#[sB x.2.2]).size=45:=by
 simp only [Array.size_append,cZ,h.1.1,h.2.1.1]
 rfl
theorem box_key {P:Program}{d k e a0 a1 a2:Nat}{fs:Array Field}{f0 f1 f2:Field}(hl:laidOutB P=true)(hs:P.types.size+2≤10000)(hd:P.types.size=d+2)(hr:k<P.types.size)(hk:P.keyType k=true)(ht:P.underlying k=some (.struct fs))(hf:fs.toList=[f0,f1,f2])(hn:P.cellsOf k=45)
  (hb:fs.all (·.name != "_")=true) (o0:f0.offset=0) (o1:f1.offset=32) (o2:f2.offset=44) (t0:f0.type=a0) (t1:f1.type=a1) (t2:f2.type=a2) (h0:P.underlying a0=some (.array 32 e)) (h1:P.underlying a1=some (.array 12 e)) (h2:P.underlying a2=some .string)
  (he:P.underlying e=some (.int .u8)) (c0:P.cellsOf a0=32) (c1:P.cellsOf a1=12) (c2:P.cellsOf a2=1) (ce:P.cellsOf e=1):MKey P k boxV OkB where
 law:=deep_law_gate hl hs hr hk (by rw [ht])
 lit x hx:=by
  have hsz:=box_size hx
  obtain⟨K,N,B⟩:=x
  obtain⟨hK,hN,hB,hBl⟩:=hx
  have hBl:B.length≤1000000:=hBl
  have ec:(cn .u8 K++cn .u8 N++#[sB B]).toList=(cn .u8 K).toList++((cn .u8 N).toList++[sB B]):=by simp
  have lK:(cn .u8 K).toList.length=32:=by rw [Array.length_toList,cZ];exact hK.1
  have lN:(cn .u8 N).toList.length=12:=by rw [Array.length_toList,cZ];exact hN.1
  obtain⟨q0,e0⟩:=lits_bytes (d:=d) h0 he ce c0 hK
  obtain⟨q1,e1⟩:=lits_bytes (d:=d) h1 he ce c1 hN
  obtain⟨q2,e2⟩:=lits_str (d:=d+1) h2 (X:=B) (by simp only [maxLen];omega)
  have p0:(((cn .u8 K).toList++((cn .u8 N).toList++[sB B])).drop 0).take 32=(cn .u8 K).toList:=by rw [List.drop_zero,List.take_append_of_le_length (by omega),List.take_of_length_le (by omega)]
  have p1:(((cn .u8 K).toList++((cn .u8 N).toList++[sB B])).drop 32).take 12=(cn .u8 N).toList:=by rw [List.drop_append_of_le_length (by omega),List.drop_of_length_le (by omega),List.nil_append,List.take_append_of_le_length (by omega),List.take_of_length_le (by omega)]
  have p2:(((cn .u8 K).toList++((cn .u8 N).toList++[sB B])).drop 44).take 1=[sB B]:=by
   rw [show 44=(cn .u8 K).toList.length+12 by omega,←List.drop_drop,List.drop_left,show 12=(cn .u8 N).toList.length by omega,List.drop_left]
   rfl
  have hL:P.keyLits (d+3) k (cn .u8 K++cn .u8 N++#[sB B]).toList=some [q0,q1,q2].flatten:=by
   unfold Program.keyLits
   rw [ht]
   dsimp only
   rw [if_pos ⟨by rw [Array.length_toList,hsz,hn],by rw [←Array.all_toList]at hb ⊢;exact hb⟩,hf,ec]
   simp only [List.mapM_cons,List.mapM_nil,o0,o1,o2,t0,t1,t2,c0,c1,c2,p0,p1,p2,e0,e1,e2,Option.bind_eq_bind,Option.bind_some,Option.pure_def,Option.map_some]
  exact⟨_,by simp only [keyOf,ht,hk,Value.formed,Value.cells,hsz,hn,hd,hL,BEq.rfl,Bool.and_self,if_true,Option.map_some];rfl⟩
 inj x y hx hy h:=by
  obtain⟨K,N,B⟩:=x
  obtain⟨K',N',B'⟩:=y
  obtain⟨hK,hN,hB,hBl⟩:=hx
  obtain⟨hK',hN',hB',hBl'⟩:=hy
  have e:=Value.agg.inj h
  simp only at hK hN hB hK' hN' hB' e
  have l1:K.length=32:=hK.1
  have l2:N.length=12:=hN.1
  have cell:∀(K N B:List Nat),K.length=32→N.length=12→(∀i,i<32→(cn .u8 K++cn .u8 N++#[sB B])[i]? = some (iB (K.getD i 0)))∧(∀i,i<12→(cn .u8 K++cn .u8 N++#[sB B])[32+i]? = some (iB (N.getD i 0)))∧(cn .u8 K++cn .u8 N++#[sB B])[44]? = some (sB B):=fun K N B hK hN=>by
   have s1:(cn .u8 K).size=32:=by rw [cZ,hK]
   have s2:(cn .u8 K++cn .u8 N).size=44:=by rw [Array.size_append,cZ,cZ,hK,hN]
   refine⟨fun i hi=>?_,fun i hi=>?_,?_⟩
   ·rw [Array.getElem?_append_left (by omega),Array.getElem?_append_left (by omega),cn_get _ _ _ (by omega)]
   ·rw [Array.getElem?_append_left (by omega),Array.getElem?_append_right (by omega),s1,Nat.add_sub_cancel_left,cn_get _ _ _ (by omega)]
   ·rw [Array.getElem?_append_right (by omega),s2]
    rfl
  obtain⟨a1,a2,a3⟩:=cell K N B hK.1 hN.1
  obtain⟨b1,b2,b3⟩:=cell K' N' B' hK'.1 hN'.1
  rw [e]at a1 a2 a3
  have num:∀{x y:Nat},some (Value.int .u8 (x:Int))=some (.int .u8 (y:Int))→x=y:=fun h=>Int.ofNat.inj (Value.int.inj (Option.some.inj h)).2
  have eK:K=K':=ext_getD (hK.1.trans hK'.1.symm) fun i hi=>num ((a1 i (by omega)).symm.trans (b1 i (by omega)))
  have eN:N=N':=ext_getD (hN.1.trans hN'.1.symm) fun i hi=>num ((a2 i (by omega)).symm.trans (b2 i (by omega)))
  have eB:B=B':=bs_inj hB hB' (Value.string.inj (Option.some.inj (a3.symm.trans b3)))
  rw [eK,eN,eB]
theorem box_law:MKey Tryz.prog 183 boxV OkB:=box_key (e:=5) (d:=319) laidP (by decide +kernel) (by decide +kernel) (by decide +kernel) (by decide +kernel) Tryz.underlying183 rfl (by kernel_rfl) (by decide +kernel) rfl rfl rfl rfl rfl rfl Tryz.underlying52 Tryz.underlying124 Tryz.underlying9 Tryz.underlying5 (by kernel_rfl) (by kernel_rfl) (by kernel_rfl) (by kernel_rfl)
abbrev KM (l:Pairs):Obj:=mapO (fun X=>.agg (cn .u8 X)) (fun X=>.agg (cn .u8 X)) l
abbrev BB (i:Bool)(t:Value)(m1 m2 m3 f:Nat):Obj:=.cells #[.bool i,t,.map (some m1),.map (some m2),.map (some m3),iN f] 140
theorem pshared_any {b m1 m2 m3:Nat}{i:Bool}{t:Value}{f:Nat}{ks:Pairs}{K:List Nat}(hk:OkP 32 ks)(hK:BytesK 32 K)(w0:World)(H:Has w0 [(b,oC #[.bool i,t,.map (some m1),.map (some m2),.map (some m3),iN f] 140),(m1,KM ks)])(hD:Distinct [(b,oC #[.bool i,t,.map (some m1),.map (some m2),.map (some m3),iN f] 140),(m1,KM ks)]) :
  Calls Tryz.prog 19 #[pT b,.agg (cn .u8 K)] w0 fun e w'=>e=.returned (.bool (mget K ks).isSome)∧TurnB [] w0 w':=by
 refine eF Tryz.func19 rfl Tryz.ntmps19 (by simp) fun ac (FF:Fr 19 ac [(0,pT b),(1,.agg (cn .u8 K))])=>?_
 have MM:MemS (fun k=>k<w0.heap.size∧∀x∈[(b,oC #[.bool i,t,.map (some m1),.map (some m2),.map (some m3),iN f] 140),(m1,KM ks)],x.1≠k) w0 w0 [(b,oC #[.bool i,t,.map (some m1),.map (some m2),.map (some m3),iN f] 140),(m1,KM ks)] []:=MemS.startN H hD
 refine wp_seq (rg_c FF MM [(0,s_ 0 (.cells (cn .u8 K) 52))] 5 [] [1] (⟨(by kernel_rfl),fun bk=>fun _ _ FF1 MM1=>tN ?_⟩))
 refine wp_seq ?_
 refine wp_seq (rg_c FF1 MM1 [(1,f_ (.bool false))] 5 [8] [] (⟨(ptrSome_ok (t:=28) (t':=28) (x:=(.tmp 7)) (y:=(.const (.pointer none))) (by kernel_rfl) rfl rfl Tryz.underlying28),fun _ _ FF2 MM2=>tN ?_⟩))
 refine wp_cond_false (FF2.ev 0 rfl) ?_
 refine wp_skip ?_
 refine tN ?_
 cases hg:mget K ks with
 | none=>
  refine wp_seq (rg_lay FF2 MM2 [lval (pT b),lval (pT b),lval (.pointer (some ⟨b,2,none⟩)),lval (.map (some m1)),lval (.agg (cn .u8 K)),lval (.tuple #[.agg (cn .u8 (List.replicate 32 0)),.bool false]),lval (.tuple #[.agg (cn .u8 (List.replicate 32 0)),.bool false]),lval (.agg (cn .u8 (List.replicate 32 0))),lval (.bool false),lnew (.cells (cn .u8 (List.replicate 32 0)) 52) (fun b=>pT b) (some (10,.cells (cn .u8 (List.replicate 32 0)) 52)),lsto 9,lval (.bool false)] [o_,o_,o_,l_ 1 (.map (some m1)),b_ 0,f_ (.tuple #[.agg (cn .u8 (List.replicate 32 0)),.bool false]),o_,o_,o_,o_,o_,o_] [4,0,6] [b=b,(#[.bool i,t,.map (some m1),.map (some m2),.map (some m3),iN f]:Array Value)[2]? = some (.map (some m1)),bk=bk,(cn .u8 K).size=32,RunV Tryz.prog [(13,.map (some m1)),(14,.agg (cn .u8 K)),(8,.bool false),(4,.bool false),(3,pT bk),(0,pT b)] [(bk,.cells (cn .u8 K) 52),(b,oC #[.bool i,t,.map (some m1),.map (some m2),.map (some m3),iN f] 140),(m1,KM ks)] (opAt Tryz.f19 3 5) (.tuple #[.agg (cn .u8 (List.replicate 32 0)),.bool false])] (fun nb=>[(6,.bool false),(4,.bool false),(0,pT b)]) (fun nb=>[((nb 9),.cells (cn .u8 (List.replicate 32 0)) 52),(bk,.cells (cn .u8 K) 52),(b,oC #[.bool i,t,.map (some m1),.map (some m2),.map (some m3),iN f] 140),(m1,KM ks)]) (by kernel_rfl) (by kernel_rfl) (by kernel_rfl) (by kernel_rfl) (fun _=>by kernel_rfl) (fun _=>by kernel_rfl) ⟨(fun a w=>⟨rfl,by simp [execOp,go_sem,cn]⟩),⟨⟨5,16,52,(cn .u8 (List.replicate 32 0)),(cn .u8 (List.replicate 32 0)),7,rfl,rfl,rfl,by kernel_rfl,rfl,rfl,by kernel_rfl,rfl,rfl,(show(cn .u8 (List.replicate 32 0)).size=32 from((cZ _ _).trans (List.length_replicate ..))).trans (show(cn .u8 (List.replicate 32 0)).size=32 from((cZ _ _).trans (List.length_replicate ..))).symm,(cn_one _ _),(show _=some 32 by kernel_rfl).trans (congrArg some (show(cn .u8 (List.replicate 32 0)).size=32 from((cZ _ _).trans (List.length_replicate ..))).symm)⟩,trivial⟩⟩ ⟨rfl,rfl,rfl,((cZ _ _).trans hK.1),(mapNo_ok (t:=136) (m:=(.tmp 13)) (y:=(.tmp 14)) (b:=m1) (i:=2) (kf:=(fun X=>.agg (cn .u8 X))) (vf:=(fun X=>.agg (cn .u8 X))) (l:=ks) (x:=K) (c:=true) (z:=.agg (cn .u8 (List.replicate 32 0))) (by kernel_rfl) rfl rfl Tryz.underlying136 key_law (fun p hp=>(hk.1 p hp).1) hk.2 hK rfl (by kernel_rfl) hg),trivial⟩ (fun nb ac3 wd3 FF3 MM3=>tN ?_))
  generalize nb 9=bo at *
  refine wp_seq (rg_c FF3 MM3 [] 5 [] [] (fun _ _ FF4 MM4=>tN ?_))
  refine wp_ret ?_
  repeat first | refine tR ?_ | refine iR ?_
  exact(ret_fr FF4 0 Tryz.results19 rfl ⟨rfl,MM4.turnB [] H (fun _ h=>(nomatch h)) (List.forall_mem_cons.2 ⟨.inl (List.mem_of_getElem? (i:=2) rfl),(List.forall_mem_cons.2 ⟨.inl (List.mem_of_getElem? (i:=3) rfl),(fun _ h=>(nomatch h))⟩)⟩)⟩)
 | some own=>
  refine wp_seq (rg_lay FF2 MM2 [lval (pT b),lval (pT b),lval (.pointer (some ⟨b,2,none⟩)),lval (.map (some m1)),lval (.agg (cn .u8 K)),lval (.tuple #[.agg (cn .u8 own),.bool true]),lval (.tuple #[.agg (cn .u8 own),.bool true]),lval (.agg (cn .u8 own)),lval (.bool true),lnew (.cells (cn .u8 (List.replicate 32 0)) 52) (fun b=>pT b) (some (10,.cells (cn .u8 own) 52)),lsto 9,lval (.bool true)] [o_,o_,o_,l_ 1 (.map (some m1)),b_ 0,f_ (.tuple #[.agg (cn .u8 own),.bool true]),o_,o_,o_,o_,o_,o_] [4,0,6] [b=b,(#[.bool i,t,.map (some m1),.map (some m2),.map (some m3),iN f]:Array Value)[2]? = some (.map (some m1)),bk=bk,(cn .u8 K).size=32,RunV Tryz.prog [(13,.map (some m1)),(14,.agg (cn .u8 K)),(8,.bool false),(4,.bool false),(3,pT bk),(0,pT b)] [(bk,.cells (cn .u8 K) 52),(b,oC #[.bool i,t,.map (some m1),.map (some m2),.map (some m3),iN f] 140),(m1,KM ks)] (opAt Tryz.f19 3 5) (.tuple #[.agg (cn .u8 own),.bool true])] (fun nb=>[(6,.bool true),(4,.bool false),(0,pT b)]) (fun nb=>[((nb 9),.cells (cn .u8 own) 52),(bk,.cells (cn .u8 K) 52),(b,oC #[.bool i,t,.map (some m1),.map (some m2),.map (some m3),iN f] 140),(m1,KM ks)]) (by kernel_rfl) (by kernel_rfl) (by kernel_rfl) (by kernel_rfl) (fun _=>by kernel_rfl) (fun _=>by kernel_rfl) ⟨(fun a w=>⟨rfl,by simp [execOp,go_sem,cn]⟩),⟨⟨5,16,52,(cn .u8 (List.replicate 32 0)),(cn .u8 own),7,rfl,rfl,rfl,by kernel_rfl,rfl,rfl,by kernel_rfl,rfl,rfl,(show(cn .u8 (List.replicate 32 0)).size=32 from((cZ _ _).trans (List.length_replicate ..))).trans (show(cn .u8 own).size=32 from((cZ _ _).trans (hk.1 _ (mget_mem hg)).2.1)).symm,(cn_one _ _),(show _=some 32 by kernel_rfl).trans (congrArg some (show(cn .u8 own).size=32 from((cZ _ _).trans (hk.1 _ (mget_mem hg)).2.1)).symm)⟩,trivial⟩⟩ ⟨rfl,rfl,rfl,((cZ _ _).trans hK.1),(mapYes_ok (t:=136) (m:=(.tmp 13)) (y:=(.tmp 14)) (b:=m1) (i:=2) (kf:=(fun X=>.agg (cn .u8 X))) (vf:=(fun X=>.agg (cn .u8 X))) (l:=ks) (x:=K) (c:=true) (v:=own) (by kernel_rfl) rfl rfl Tryz.underlying136 key_law (fun p hp=>(hk.1 p hp).1) hk.2 hK rfl hg),trivial⟩ (fun nb ac5 wd5 FF5 MM5=>tN ?_))
  generalize nb 9=bo at *
  refine wp_seq (rg_c FF5 MM5 [] 5 [] [] (fun _ _ FF6 MM6=>tN ?_))
  refine wp_ret ?_
  repeat first | refine tR ?_ | refine iR ?_
  exact(ret_fr FF6 0 Tryz.results19 rfl ⟨rfl,MM6.turnB [] H (fun _ h=>(nomatch h)) (List.forall_mem_cons.2 ⟨.inl (List.mem_of_getElem? (i:=2) rfl),(List.forall_mem_cons.2 ⟨.inl (List.mem_of_getElem? (i:=3) rfl),(fun _ h=>(nomatch h))⟩)⟩)⟩)
theorem pshared_nil (K:List Nat)(_hK:BytesK 32 K)(w0:World) :
  Calls Tryz.prog 19 #[.pointer none,.agg (cn .u8 K)] w0 fun e w'=>e=.returned (.bool false)∧Below w0.heap.size w0 w':=by
 refine eF Tryz.func19 rfl Tryz.ntmps19 (by simp) fun ac (FF:Fr 19 ac [(0,.pointer none),(1,.agg (cn .u8 K))])=>?_
 have MM:=MemS.start w0
 refine wp_seq (rg_c FF MM [(0,s_ 0 (.cells (cn .u8 K) 52))] 5 [] [1] (⟨(by kernel_rfl),fun bk=>fun _ _ FF1 MM1=>tN ?_⟩))
 refine wp_seq ?_
 refine wp_seq (rg_c FF1 MM1 [(1,f_ (.bool true))] 5 [8] [] (⟨(ptrNil_ok (t:=28) (t':=28) (x:=(.tmp 7)) (y:=(.const (.pointer none))) (by kernel_rfl) rfl rfl Tryz.underlying28),fun _ _ FF2 MM2=>tN ?_⟩))
 refine wp_cond_true (FF2.ev 0 rfl) ?_
 refine wp_seq (rg_c FF2 MM2 [] 5 [] [] (fun _ _ FF3 MM3=>tN ?_))
 refine wp_ret ?_
 repeat first | refine tR ?_ | refine iR ?_
 exact(ret_fr FF3 0 Tryz.results19 rfl ⟨rfl,MM3.below⟩)
theorem pKey_any {b m1 m2 m3:Nat}{i:Bool}{t:Value}{f:Nat}{ks:Pairs}{K:List Nat}(hk:OkP 32 ks)(hK:BytesK 32 K)(w0:World)(H:Has w0 [(b,oC #[.bool i,t,.map (some m1),.map (some m2),.map (some m3),iN f] 140),(m1,KM ks)])(hD:Distinct [(b,oC #[.bool i,t,.map (some m1),.map (some m2),.map (some m3),iN f] 140),(m1,KM ks)]) :
  Calls Tryz.prog 21 #[pT b,.agg (cn .u8 K)] w0 fun e w'=>e=.returned (.agg (cn .u8 (ownN K ks)))∧TurnB [] w0 w':=by
 refine eF Tryz.func21 rfl Tryz.ntmps21 (by simp) fun ac (FF:Fr 16 ac [(0,pT b),(1,.agg (cn .u8 K))])=>?_
 have MM:MemS (fun k=>k<w0.heap.size∧∀x∈[(b,oC #[.bool i,t,.map (some m1),.map (some m2),.map (some m3),iN f] 140),(m1,KM ks)],x.1≠k) w0 w0 [(b,oC #[.bool i,t,.map (some m1),.map (some m2),.map (some m3),iN f] 140),(m1,KM ks)] []:=MemS.startN H hD
 refine wp_seq (rg_c FF MM [(0,s_ 0 (.cells (cn .u8 K) 52)),(0,s_ 0 (.cells (cn .u8 (List.replicate 32 0)) 52))] 5 [] [1] (⟨(by kernel_rfl),fun bk=>⟨(by kernel_rfl),fun br=>fun _ _ FF1 MM1=>tN ?_⟩⟩))
 refine wp_seq ?_
 cases hg:mget K ks with
 | none=>
  refine wp_seq (rg_c FF1 MM1 [(1,b_ 1),(0,u_ 1 (.bool false))] 5 [8] [] (⟨rfl,((cZ _ _).trans hK.1),(callP_B [2,3] en_pshared rfl (fun w Hw=>by have h0:=pshared_any hk hK w Hw (dN rfl (distinct_at MM1.distinct (is:=[2,3]) rfl rfl));rw [hg]at h0;exact h0)),fun _ _ FF2 MM2=>tN ?_⟩))
  refine wp_cond_true (FF2.ev 0 rfl) ?_
  refine wp_seq (rg_c FF2 MM2 [(0,b_ 1),(0,b_ 0)] 5 [] [] (⟨rfl,((cZ _ _).trans hK.1),rfl,((cZ _ _).trans (List.length_replicate ..)),((cZ _ _).trans hK.1),(cn_one _ _),rfl,fun _ _ FF3 MM3=>tN ?_⟩))
  refine wp_ret ?_
  repeat first | refine tR ?_ | refine iR ?_
  exact(retc FF3 MM3 (k:=32) (i:=0) (j:=0) Tryz.results21 rfl rfl Tryz.underlying52 rfl (by kernel_rfl) ((cZ _ _).trans hK.1) ⟨by rw [ownN,hg];rfl,MM3.turnB [] H (fun _ h=>(nomatch h)) (List.forall_mem_cons.2 ⟨.inl (List.mem_of_getElem? (i:=2) rfl),(List.forall_mem_cons.2 ⟨.inl (List.mem_of_getElem? (i:=3) rfl),(fun _ h=>(nomatch h))⟩)⟩)⟩)
 | some own=>
  refine wp_seq (rg_c FF1 MM1 [(1,b_ 1),(0,u_ 1 (.bool true))] 5 [8] [] (⟨rfl,((cZ _ _).trans hK.1),(callP_B [2,3] en_pshared rfl (fun w Hw=>by have h0:=pshared_any hk hK w Hw (dN rfl (distinct_at MM1.distinct (is:=[2,3]) rfl rfl));rw [hg]at h0;exact h0)),fun _ _ FF4 MM4=>tN ?_⟩))
  refine wp_cond_false (FF4.ev 0 rfl) ?_
  refine wp_skip ?_
  refine tN ?_
  refine wp_seq (rg_dc 6 FF4 MM4 [(3,l_ 2 (.map (some m1))),(0,b_ 1),(0,f_ (.agg (cn .u8 own)))] [(0,b_ 0)] 5 [] [] (⟨rfl,rfl,rfl,((cZ _ _).trans hK.1),(mapYes_ok (t:=136) (m:=(.tmp 13)) (y:=(.tmp 14)) (b:=m1) (i:=3) (kf:=(fun X=>.agg (cn .u8 X))) (vf:=(fun X=>.agg (cn .u8 X))) (l:=ks) (x:=K) (c:=false) (v:=own) (by kernel_rfl) rfl rfl Tryz.underlying136 key_law (fun p hp=>(hk.1 p hp).1) hk.2 hK rfl hg),rfl,((cZ _ _).trans (List.length_replicate ..)),((cZ _ _).trans (hk.1 _ (mget_mem hg)).2.1),(cn_one _ _),rfl,fun _ _ FF5 MM5=>tN ?_⟩))
  refine wp_ret ?_
  repeat first | refine tR ?_ | refine iR ?_
  exact(retc FF5 MM5 (k:=32) (i:=0) (j:=0) Tryz.results21 rfl rfl Tryz.underlying52 rfl (by kernel_rfl) ((cZ _ _).trans (hk.1 _ (mget_mem hg)).2.1) ⟨by rw [ownN,hg];rfl,MM5.turnB [] H (fun _ h=>(nomatch h)) (List.forall_mem_cons.2 ⟨.inl (List.mem_of_getElem? (i:=2) rfl),(List.forall_mem_cons.2 ⟨.inl (List.mem_of_getElem? (i:=3) rfl),(fun _ h=>(nomatch h))⟩)⟩)⟩)
theorem pID_any {b m1 m2 m3:Nat}{i:Bool}{t:Value}{f:Nat}{ks:Pairs}{K:List Nat}(hk:OkP 16 ks)(hK:BytesK 16 K)(w0:World)(H:Has w0 [(b,oC #[.bool i,t,.map (some m1),.map (some m2),.map (some m3),iN f] 140),(m2,KM ks)])(hD:Distinct [(b,oC #[.bool i,t,.map (some m1),.map (some m2),.map (some m3),iN f] 140),(m2,KM ks)]) :
  Calls Tryz.prog 46 #[pT b,.agg (cn .u8 K)] w0 fun e w'=>e=.returned (.agg (cn .u8 (ownN K ks)))∧TurnB [] w0 w':=by
 refine eF Tryz.func46 rfl Tryz.ntmps46 (by simp) fun ac (FF:Fr 22 ac [(0,pT b),(1,.agg (cn .u8 K))])=>?_
 have MM:MemS (fun k=>k<w0.heap.size∧∀x∈[(b,oC #[.bool i,t,.map (some m1),.map (some m2),.map (some m3),iN f] 140),(m2,KM ks)],x.1≠k) w0 w0 [(b,oC #[.bool i,t,.map (some m1),.map (some m2),.map (some m3),iN f] 140),(m2,KM ks)] []:=MemS.startN H hD
 refine wp_seq (rg_c FF MM [(0,s_ 0 (.cells (cn .u8 K) 95)),(0,s_ 0 (.cells (cn .u8 (List.replicate 16 0)) 95))] 5 [] [1] (⟨(by kernel_rfl),fun bk=>⟨(by kernel_rfl),fun br=>fun _ _ FF1 MM1=>tN ?_⟩⟩))
 refine wp_seq ?_
 refine wp_seq (rg_c FF1 MM1 [(1,f_ (.bool false))] 5 [8] [] (⟨(ptrSome_ok (t:=28) (t':=28) (x:=(.tmp 7)) (y:=(.const (.pointer none))) (by kernel_rfl) rfl rfl Tryz.underlying28),fun _ _ FF2 MM2=>tN ?_⟩))
 refine wp_cond_false (FF2.ev 0 rfl) ?_
 refine wp_skip ?_
 refine tN ?_
 refine wp_seq ?_
 cases hg:mget K ks with
 | none=>
  refine wp_seq (rg_lay FF2 MM2 [lval (pT b),lval (pT b),lval (.pointer (some ⟨b,3,none⟩)),lval (.map (some m2)),lval (.agg (cn .u8 K)),lval (.tuple #[.agg (cn .u8 (List.replicate 16 0)),.bool false]),lval (.tuple #[.agg (cn .u8 (List.replicate 16 0)),.bool false]),lval (.agg (cn .u8 (List.replicate 16 0))),lval (.bool false),lnew (.cells (cn .u8 (List.replicate 16 0)) 95) (fun b=>pT b) (some (10,.cells (cn .u8 (List.replicate 16 0)) 95)),lsto 9,lval (.bool false)] [o_,o_,o_,l_ 2 (.map (some m2)),b_ 1,f_ (.tuple #[.agg (cn .u8 (List.replicate 16 0)),.bool false]),o_,o_,o_,o_,o_,o_] [4,3,0,5,6] [b=b,(#[.bool i,t,.map (some m1),.map (some m2),.map (some m3),iN f]:Array Value)[3]? = some (.map (some m2)),bk=bk,(cn .u8 K).size=16,RunV Tryz.prog [(14,.map (some m2)),(15,.agg (cn .u8 K)),(8,.bool false),(4,pT br),(3,pT bk),(0,pT b)] [(br,.cells (cn .u8 (List.replicate 16 0)) 95),(bk,.cells (cn .u8 K) 95),(b,oC #[.bool i,t,.map (some m1),.map (some m2),.map (some m3),iN f] 140),(m2,KM ks)] (opAt Tryz.f46 3 5) (.tuple #[.agg (cn .u8 (List.replicate 16 0)),.bool false])] (fun nb=>[(6,.bool false),(5,pT (nb 9)),(4,pT br),(3,pT bk),(0,pT b)]) (fun nb=>[((nb 9),.cells (cn .u8 (List.replicate 16 0)) 95),(br,.cells (cn .u8 (List.replicate 16 0)) 95),(bk,.cells (cn .u8 K) 95),(b,oC #[.bool i,t,.map (some m1),.map (some m2),.map (some m3),iN f] 140),(m2,KM ks)]) (by kernel_rfl) (by kernel_rfl) (by kernel_rfl) (by kernel_rfl) (fun _=>by kernel_rfl) (fun _=>by kernel_rfl) ⟨(fun a w=>⟨rfl,by simp [execOp,go_sem,cn]⟩),⟨⟨5,17,95,(cn .u8 (List.replicate 16 0)),(cn .u8 (List.replicate 16 0)),7,rfl,rfl,rfl,by kernel_rfl,rfl,rfl,by kernel_rfl,rfl,rfl,(show(cn .u8 (List.replicate 16 0)).size=16 from((cZ _ _).trans (List.length_replicate ..))).trans (show(cn .u8 (List.replicate 16 0)).size=16 from((cZ _ _).trans (List.length_replicate ..))).symm,(cn_one _ _),(show _=some 16 by kernel_rfl).trans (congrArg some (show(cn .u8 (List.replicate 16 0)).size=16 from((cZ _ _).trans (List.length_replicate ..))).symm)⟩,trivial⟩⟩ ⟨rfl,rfl,rfl,((cZ _ _).trans hK.1),(mapNo_ok (t:=137) (m:=(.tmp 14)) (y:=(.tmp 15)) (b:=m2) (i:=3) (kf:=(fun X=>.agg (cn .u8 X))) (vf:=(fun X=>.agg (cn .u8 X))) (l:=ks) (x:=K) (c:=true) (z:=.agg (cn .u8 (List.replicate 16 0))) (by kernel_rfl) rfl rfl Tryz.underlying137 id_law (fun p hp=>(hk.1 p hp).1) hk.2 hK rfl (by kernel_rfl) hg),trivial⟩ (fun nb ac3 wd3 FF3 MM3=>tN ?_))
  generalize nb 9=bo at *
  refine wp_seq (rg_c FF3 MM3 [] 6 [19] [] (fun _ _ FF4 MM4=>tN ?_))
  refine wp_cond_false (FF4.ev 0 rfl) ?_
  refine wp_skip ?_
  refine tN ?_
  refine wp_seq (rg_c FF4 MM4 [(0,b_ 2),(0,b_ 1)] 6 [] [] (⟨rfl,((cZ _ _).trans hK.1),rfl,((cZ _ _).trans (List.length_replicate ..)),((cZ _ _).trans hK.1),(cn_one _ _),rfl,fun _ _ FF5 MM5=>tN ?_⟩))
  refine wp_ret ?_
  repeat first | refine tR ?_ | refine iR ?_
  exact(retc FF5 MM5 (k:=16) (i:=1) (j:=1) Tryz.results46 rfl rfl Tryz.underlying95 rfl (by kernel_rfl) ((cZ _ _).trans hK.1) ⟨by rw [ownN,hg];rfl,MM5.turnB [] H (fun _ h=>(nomatch h)) (List.forall_mem_cons.2 ⟨.inl (List.mem_of_getElem? (i:=3) rfl),(List.forall_mem_cons.2 ⟨.inl (List.mem_of_getElem? (i:=4) rfl),(fun _ h=>(nomatch h))⟩)⟩)⟩)
 | some own=>
  refine wp_seq (rg_lay FF2 MM2 [lval (pT b),lval (pT b),lval (.pointer (some ⟨b,3,none⟩)),lval (.map (some m2)),lval (.agg (cn .u8 K)),lval (.tuple #[.agg (cn .u8 own),.bool true]),lval (.tuple #[.agg (cn .u8 own),.bool true]),lval (.agg (cn .u8 own)),lval (.bool true),lnew (.cells (cn .u8 (List.replicate 16 0)) 95) (fun b=>pT b) (some (10,.cells (cn .u8 own) 95)),lsto 9,lval (.bool true)] [o_,o_,o_,l_ 2 (.map (some m2)),b_ 1,f_ (.tuple #[.agg (cn .u8 own),.bool true]),o_,o_,o_,o_,o_,o_] [4,3,0,5,6] [b=b,(#[.bool i,t,.map (some m1),.map (some m2),.map (some m3),iN f]:Array Value)[3]? = some (.map (some m2)),bk=bk,(cn .u8 K).size=16,RunV Tryz.prog [(14,.map (some m2)),(15,.agg (cn .u8 K)),(8,.bool false),(4,pT br),(3,pT bk),(0,pT b)] [(br,.cells (cn .u8 (List.replicate 16 0)) 95),(bk,.cells (cn .u8 K) 95),(b,oC #[.bool i,t,.map (some m1),.map (some m2),.map (some m3),iN f] 140),(m2,KM ks)] (opAt Tryz.f46 3 5) (.tuple #[.agg (cn .u8 own),.bool true])] (fun nb=>[(6,.bool true),(5,pT (nb 9)),(4,pT br),(3,pT bk),(0,pT b)]) (fun nb=>[((nb 9),.cells (cn .u8 own) 95),(br,.cells (cn .u8 (List.replicate 16 0)) 95),(bk,.cells (cn .u8 K) 95),(b,oC #[.bool i,t,.map (some m1),.map (some m2),.map (some m3),iN f] 140),(m2,KM ks)]) (by kernel_rfl) (by kernel_rfl) (by kernel_rfl) (by kernel_rfl) (fun _=>by kernel_rfl) (fun _=>by kernel_rfl) ⟨(fun a w=>⟨rfl,by simp [execOp,go_sem,cn]⟩),⟨⟨5,17,95,(cn .u8 (List.replicate 16 0)),(cn .u8 own),7,rfl,rfl,rfl,by kernel_rfl,rfl,rfl,by kernel_rfl,rfl,rfl,(show(cn .u8 (List.replicate 16 0)).size=16 from((cZ _ _).trans (List.length_replicate ..))).trans (show(cn .u8 own).size=16 from((cZ _ _).trans (hk.1 _ (mget_mem hg)).2.1)).symm,(cn_one _ _),(show _=some 16 by kernel_rfl).trans (congrArg some (show(cn .u8 own).size=16 from((cZ _ _).trans (hk.1 _ (mget_mem hg)).2.1)).symm)⟩,trivial⟩⟩ ⟨rfl,rfl,rfl,((cZ _ _).trans hK.1),(mapYes_ok (t:=137) (m:=(.tmp 14)) (y:=(.tmp 15)) (b:=m2) (i:=3) (kf:=(fun X=>.agg (cn .u8 X))) (vf:=(fun X=>.agg (cn .u8 X))) (l:=ks) (x:=K) (c:=true) (v:=own) (by kernel_rfl) rfl rfl Tryz.underlying137 id_law (fun p hp=>(hk.1 p hp).1) hk.2 hK rfl hg),trivial⟩ (fun nb ac6 wd6 FF6 MM6=>tN ?_))
  generalize nb 9=bo at *
  refine wp_seq (rg_c FF6 MM6 [] 6 [19] [] (fun _ _ FF7 MM7=>tN ?_))
  refine wp_cond_true (FF7.ev 0 rfl) ?_
  refine wp_seq (rg_c FF7 MM7 [(0,b_ 0),(0,b_ 1)] 6 [] [] (⟨rfl,((cZ _ _).trans (hk.1 _ (mget_mem hg)).2.1),rfl,((cZ _ _).trans (List.length_replicate ..)),((cZ _ _).trans (hk.1 _ (mget_mem hg)).2.1),(cn_one _ _),rfl,fun _ _ FF8 MM8=>tN ?_⟩))
  refine wp_ret ?_
  repeat first | refine tR ?_ | refine iR ?_
  exact(retc FF8 MM8 (k:=16) (i:=1) (j:=1) Tryz.results46 rfl rfl Tryz.underlying95 rfl (by kernel_rfl) ((cZ _ _).trans (hk.1 _ (mget_mem hg)).2.1) ⟨by rw [ownN,hg];rfl,MM8.turnB [] H (fun _ h=>(nomatch h)) (List.forall_mem_cons.2 ⟨.inl (List.mem_of_getElem? (i:=3) rfl),(List.forall_mem_cons.2 ⟨.inl (List.mem_of_getElem? (i:=4) rfl),(fun _ h=>(nomatch h))⟩)⟩)⟩)
theorem pshare_real {b m1 m2 m3:Nat}{f:Nat}{t_:Value}{ks:Pairs}{K:List Nat}(hk:OkP 32 ks)(hK:BytesK 32 K)(w0:World)(H:Has w0 [(b,oC #[.bool false,t_,.map (some m1),.map (some m2),.map (some m3),iN f] 140),(m1,KM ks)])(hD:Distinct [(b,oC #[.bool false,t_,.map (some m1),.map (some m2),.map (some m3),iN f] 140),(m1,KM ks)]) :
  Calls Tryz.prog 87 #[pT b,.agg (cn .u8 K)] w0 fun e w'=>e=.returned (.tuple #[])∧TurnB [(m1,KM (shareK false 32 K ks []))] w0 w':=by
 refine eF Tryz.func87 rfl Tryz.ntmps87 (by simp) fun ac (FF:Fr 31 ac [(0,pT b),(1,.agg (cn .u8 K))])=>?_
 have MM:MemS (fun k=>k<w0.heap.size∧∀x∈[(b,oC #[.bool false,t_,.map (some m1),.map (some m2),.map (some m3),iN f] 140),(m1,KM ks)],x.1≠k) w0 w0 [(b,oC #[.bool false,t_,.map (some m1),.map (some m2),.map (some m3),iN f] 140),(m1,KM ks)] []:=MemS.startN H hD
 refine wp_seq (rg_c FF MM [(0,s_ 0 (.cells (cn .u8 K) 52))] 1 [3] [] (⟨(by kernel_rfl),fun bk=>fun _ _ FF1 MM1=>tN ?_⟩))
 refine wp_seq ?_
 cases hg:mget K ks with
 | none=>
  refine wp_seq (rg_c FF1 MM1 [(1,f_ (.bool false)),(2,b_ 0),(0,u_ 1 (.bool false))] 4 [10] [] (⟨(ptrSome_ok (t:=28) (t':=28) (x:=(.tmp 4)) (y:=(.const (.pointer none))) (by kernel_rfl) rfl rfl Tryz.underlying28),rfl,((cZ _ _).trans hK.1),(callP_B [1,2] en_pshared rfl (fun w Hw=>by have h0:=pshared_any hk hK w Hw (dN rfl (distinct_at MM1.distinct (is:=[1,2]) rfl rfl));rw [hg]at h0;exact h0)),fun _ _ FF2 MM2=>tN ?_⟩))
  refine wp_cond_false (FF2.ev 0 rfl) ?_
  refine wp_skip ?_
  refine tN ?_
  refine wp_seq (rg_c FF2 MM2 [(3,l_ 1 (.bool false))] 4 [14] [] (⟨rfl,rfl,fun _ _ FF3 MM3=>tN ?_⟩))
  refine wp_cond_false (FF3.ev 0 rfl) ?_
  refine rg_dc 6 FF3 MM3 [(3,l_ 1 (.map (some m1))),(0,b_ 0),(0,b_ 0)] [(0,r_ undef [(2,KM (ks++[(K,K)]))])] 4 [] [] (⟨rfl,rfl,rfl,((cZ _ _).trans hK.1),rfl,((cZ _ _).trans hK.1),(by rw [←mput_new _ hg];exact(mapPut_ok (t:=136) (m:=(.tmp 28)) (y:=(.tmp 29)) (z:=(.tmp 30)) (b:=m1) (i:=2) (kf:=(fun X=>.agg (cn .u8 X))) (vf:=(fun X=>.agg (cn .u8 X))) (l:=ks) (x:=K) (v:=K) (by kernel_rfl) rfl rfl rfl Tryz.underlying136 key_law (fun p hp=>(hk.1 p hp).1) hk.2 hK rfl)),fun _ _ FF4 MM4=>?_⟩)
  exact(end_none FF4 Tryz.results87 (by rw [(share_no hg _).1];exact⟨rfl,MM4.turnB [(m1,KM (ks++[(K,K)]))] H (List.forall_mem_cons.2 ⟨(List.mem_of_getElem? (i:=2) rfl),(fun _ h=>(nomatch h))⟩) (List.forall_mem_cons.2 ⟨.inl (List.mem_of_getElem? (i:=1) rfl),(List.forall_mem_cons.2 ⟨.inr ⟨_,(List.mem_of_getElem? (i:=0) rfl),rfl⟩,(fun _ h=>(nomatch h))⟩)⟩)⟩))
 | some own=>
  refine wp_seq (rg_c FF1 MM1 [(1,f_ (.bool false)),(2,b_ 0),(0,u_ 1 (.bool true))] 4 [10] [] (⟨(ptrSome_ok (t:=28) (t':=28) (x:=(.tmp 4)) (y:=(.const (.pointer none))) (by kernel_rfl) rfl rfl Tryz.underlying28),rfl,((cZ _ _).trans hK.1),(callP_B [1,2] en_pshared rfl (fun w Hw=>by have h0:=pshared_any hk hK w Hw (dN rfl (distinct_at MM1.distinct (is:=[1,2]) rfl rfl));rw [hg]at h0;exact h0)),fun _ _ FF5 MM5=>tN ?_⟩))
  refine wp_cond_true (FF5.ev 0 rfl) ?_
  refine wp_ret ?_
  repeat first | refine tR ?_ | refine iR ?_
  exact(ret_none FF5 Tryz.results87 (by rw [(share_yes hg _).1];exact⟨rfl,MM5.turnB [(m1,KM ks)] H (List.forall_mem_cons.2 ⟨(List.mem_of_getElem? (i:=2) rfl),(fun _ h=>(nomatch h))⟩) (List.forall_mem_cons.2 ⟨.inl (List.mem_of_getElem? (i:=1) rfl),(List.forall_mem_cons.2 ⟨.inr ⟨_,(List.mem_of_getElem? (i:=0) rfl),rfl⟩,(fun _ h=>(nomatch h))⟩)⟩)⟩))
theorem pshareid_real {b m1 m2 m3:Nat}{f:Nat}{t_:Value}{K:List Nat}(_hK:BytesK 16 K)(w0:World)(H:Has w0 [(b,oC #[.bool false,t_,.map (some m1),.map (some m2),.map (some m3),iN f] 140)])(hD:Distinct [(b,oC #[.bool false,t_,.map (some m1),.map (some m2),.map (some m3),iN f] 140)]) :
  Calls Tryz.prog 88 #[pT b,.agg (cn .u8 K)] w0 fun e w'=>e=.returned (.tuple #[])∧TurnB [] w0 w':=by
 refine eF Tryz.func88 rfl Tryz.ntmps88 (by simp) fun ac (FF:Fr 36 ac [(0,pT b),(1,.agg (cn .u8 K))])=>?_
 have MM:MemS (fun k=>k<w0.heap.size∧∀x∈[(b,oC #[.bool false,t_,.map (some m1),.map (some m2),.map (some m3),iN f] 140)],x.1≠k) w0 w0 [(b,oC #[.bool false,t_,.map (some m1),.map (some m2),.map (some m3),iN f] 140)] []:=MemS.startN H hD
 refine wp_seq (rg_c FF MM [(0,s_ 0 (.cells (cn .u8 K) 95))] 1 [3] [] (⟨(by kernel_rfl),fun bk=>fun _ _ FF1 MM1=>tN ?_⟩))
 refine wp_seq ?_
 refine wp_seq (rg_c FF1 MM1 [(1,f_ (.bool false)),(4,l_ 1 (.bool false))] 4 [14] [] (⟨(ptrSome_ok (t:=28) (t':=28) (x:=(.tmp 6)) (y:=(.const (.pointer none))) (by kernel_rfl) rfl rfl Tryz.underlying28),rfl,rfl,fun _ _ FF2 MM2=>tN ?_⟩))
 refine wp_cond_true (FF2.ev 0 rfl) ?_
 refine wp_ret ?_
 repeat first | refine tR ?_ | refine iR ?_
 exact(ret_none FF2 Tryz.results88 ⟨rfl,MM2.turnB [] H (fun _ h=>(nomatch h)) (List.forall_mem_cons.2 ⟨.inl (List.mem_of_getElem? (i:=1) rfl),(fun _ h=>(nomatch h))⟩)⟩)
theorem en_less:Enters Tryz.prog 110:=fun args w=>by simp [go_sem]
theorem en_row:Enters Tryz.prog 70:=fun args w=>by simp [go_sem]
theorem en_keyof:Enters Tryz.prog 71:=fun args w=>by simp [go_sem]
theorem en_tnon:Enters Tryz.prog 80:=fun args w=>by simp [go_sem]
theorem en_tname:Enters Tryz.prog 38:=fun args w=>by simp [go_sem]
theorem en_meet:Enters Tryz.prog 36:=fun args w=>by simp [go_sem]
theorem en_say:Enters Tryz.prog 42:=fun args w=>by simp [go_sem]
theorem en_hear:Enters Tryz.prog 44:=fun args w=>by simp [go_sem]
theorem en_idle:Enters Tryz.prog 40:=fun args w=>by simp [go_sem]
theorem less_any (A B:List Nat)(hA:BytesK 32 A)(hB:BytesK 32 B)(w0:World) :
  Calls Tryz.prog 110 #[.agg (cn .u8 A),.agg (cn .u8 B)] w0 fun e w'=>e=.returned (.agg (cn .u8 (lesN A B)))∧Below w0.heap.size w0 w':=by
 refine eF Tryz.func110 rfl Tryz.ntmps110 (by simp) fun ac (FF:Fr 13 ac [(0,.agg (cn .u8 A)),(1,.agg (cn .u8 B))])=>?_
 have MM:=MemS.start w0
 refine wp_seq (rg_c FF MM [(0,s_ 0 (.cells (cn .u8 A) 52)),(0,s_ 0 (.cells (cn .u8 B) 52)),(0,s_ 0 (.cells (cn .u8 (List.replicate 32 0)) 52))] 5 [] [0,1] (⟨(by kernel_rfl),fun ba=>⟨(by kernel_rfl),fun bb=>⟨(by kernel_rfl),fun br=>fun _ _ FF1 MM1=>tN ?_⟩⟩⟩))
 refine wp_seq (rg_draw2 FF1 MM1 [.inl (.slice (some ⟨ba,0,none⟩) 32 32),.inl (sB A),.inl (.slice (some ⟨bb,0,none⟩) 32 32),.inl (sB B),.inl (sB (lesN A B)),.inr (fun c=>.cells (cn .u8 ((lesN A B)++List.replicate c 0)) 5 ((lesN A B).length+c,(lesN A B).length+c+1),fun b c=>.slice (some ⟨b,0,none⟩) ((lesN A B).length) ((lesN A B).length+c)),.inr (fun c=>.cells (cn .u8 ((lesN A B)++List.replicate c 0)) 5 ((lesN A B).length+c,(lesN A B).length+c+1),fun b c=>pT b),.inl (.agg (cn .u8 (lesN A B)))] [] [o_,l_ 2 (sB A),o_,l_ 1 (sB B),f_ (sB (lesN A B)),y_,g_ 5,l_ 0 (.agg (cn .u8 (lesN A B)))] [b_ 0] [4] (fun nb cp=>[0≤32,32≤32,0<32,ba=ba,StrAt (cn .u8 A) 0 32 (bs A),0≤32,32≤32,0<32,bb=bb,StrAt (cn .u8 B) 0 32 (bs B),RunV Tryz.prog [(6,sB A),(8,sB B),(4,pT br),(3,pT bb),(2,pT ba)] [(br,.cells (cn .u8 (List.replicate 32 0)) 52),(bb,.cells (cn .u8 B) 52),(ba,.cells (cn .u8 A) 52)] (opAt Tryz.f110 1 4) (sB (lesN A B)),RunB Tryz.prog [(9,sB (lesN A B)),(4,pT br),(3,pT bb),(2,pT ba)] [(br,.cells (cn .u8 (List.replicate 32 0)) 52),(bb,.cells (cn .u8 B) 52),(ba,.cells (cn .u8 A) 52)] (opAt Tryz.f110 1 5) (fun c=>.cells (cn .u8 ((lesN A B)++List.replicate c 0)) 5 ((lesN A B).length+c,(lesN A B).length+c+1)) (fun b c=>.slice (some ⟨b,0,none⟩) ((lesN A B).length) ((lesN A B).length+c)),32≤(lesN A B).length,pT (nb 5)=pT (nb 5),Obj.cells (cn .u8 ((lesN A B)++List.replicate (cp 5) 0)) 5 ((lesN A B).length+(cp 5),(lesN A B).length+(cp 5)+1)=.cells (cn .u8 ((lesN A B)++List.replicate (cp 5) 0)) 5 ((lesN A B).length+(cp 5),(lesN A B).length+(cp 5)+1),(nb 6)=(nb 6),PartAt (cn .u8 ((lesN A B)++List.replicate (cp 6) 0)) 0 (cn .u8 (lesN A B)),(cn .u8 (lesN A B)).size=32]) (fun nb cp Kt=>br=br∧(cn .u8 (List.replicate 32 0)).size=32∧(cn .u8 (lesN A B)).size=32∧(cn .u8 (lesN A B)).all (·.oneCell')=true∧(0,0).2=0∧Kt [(4,pT br)] [(br,.cells (cn .u8 (lesN A B)) 52),(bb,.cells (cn .u8 B) 52),(ba,.cells (cn .u8 A) 52)]) (by kernel_rfl) (by kernel_rfl) (by kernel_rfl) (fun _ _=>by kernel_rfl) (fun _ _ _=>by kernel_rfl) trivial (by kernel_rfl) (fun nb cp=>⟨by decide,by decide,by decide,rfl,(str_all hA.1 hA.2),by decide,by decide,by decide,rfl,(str_all hB.1 hB.2),(minS_ok (t:=9) (u:=9) (x:=.tmp 6) (y:=.tmp 8) (by kernel_rfl) rfl rfl),(bytes_ok (e:=5) (x:=(.tmp 9)) (by kernel_rfl) rfl (les_ok hA hB).2 Tryz.underlying9 Tryz.underlying77 Tryz.underlying5),(by rw [(les_ok hA hB).1];decide),rfl,rfl,rfl,(part_rep _ _),((cZ _ _).trans (les_ok hA hB).1),trivial⟩) (fun nb cp=>⟨rfl,((cZ _ _).trans (List.length_replicate ..)),((cZ _ _).trans (les_ok hA hB).1),(cn_one _ _),rfl,fun _ _ FF2 MM2=>tN ?_⟩))
 refine wp_ret ?_
 repeat first | refine tR ?_ | refine iR ?_
 exact(retc FF2 MM2 (k:=32) (i:=0) (j:=0) Tryz.results110 rfl rfl Tryz.underlying52 rfl (by kernel_rfl) ((cZ _ _).trans (les_ok hA hB).1) ⟨rfl,MM2.below⟩)
theorem row_any (A B:List Nat)(hA:BytesK 32 A)(hB:BytesK 32 B)(w0:World) :
  Calls Tryz.prog 70 #[.agg (cn .u8 A),.agg (cn .u8 B)] w0 fun e w'=>e=.returned (.tuple #[.agg (cn .u8 (rowN A B).1),.agg (cn .u8 (rowN A B).2)])∧Below w0.heap.size w0 w':=by
 refine eF Tryz.func70 rfl Tryz.ntmps70 (by simp) fun ac (FF:Fr 15 ac [(0,.agg (cn .u8 A)),(1,.agg (cn .u8 B))])=>?_
 have MM:=MemS.start w0
 refine wp_seq (rg_c FF MM [(0,s_ 0 (.cells (cn .u8 A) 52)),(0,s_ 0 (.cells (cn .u8 B) 52)),(0,s_ 0 (.cells (cn .u8 (List.replicate 32 0)) 52)),(0,s_ 0 (.cells (cn .u8 (List.replicate 32 0)) 52))] 6 [] [0,1] (⟨(by kernel_rfl),fun ba=>⟨(by kernel_rfl),fun bb=>⟨(by kernel_rfl),fun bl=>⟨(by kernel_rfl),fun bh=>fun _ _ FF1 MM1=>tN ?_⟩⟩⟩⟩))
 refine wp_seq ?_
 by_cases hE:lesN A B=B
 ·skip
  refine wp_seq (rg_dc 5 FF1 MM1 [(0,b_ 3),(0,b_ 2),(0,t_ (.agg (cn .u8 (lesN A B)))),(0,b_ 2),(0,f_ (.bool true))] [] 6 [10] [] (⟨rfl,((cZ _ _).trans hA.1),rfl,((cZ _ _).trans hB.1),(cP en_less (less_any A B ⟨hA.1,hA.2⟩ ⟨hB.1,hB.2⟩) _),rfl,((cZ _ _).trans hB.1),(eqA_ok (t:=52) (t':=52) (e:=5) (m:=32) (k:=.u8) (x:=(.tmp 8)) (y:=(.tmp 9)) (by kernel_rfl) Tryz.underlying52 Tryz.underlying5 (by kernel_rfl) (by kernel_rfl) (by kernel_rfl) rfl rfl (les_ok ⟨hA.1,hA.2⟩ ⟨hB.1,hB.2⟩).1 hB.1 (decide_eq_true hE)),fun _ _ FF2 MM2=>tN ?_⟩))
  refine wp_cond_true (FF2.ev 0 rfl) ?_
  refine wp_seq (late_stand (N:=4) [(ba,.cells (cn .u8 A) 52),(bb,.cells (cn .u8 B) 52)] (by kernel_rfl) (by kernel_rfl) MM2 fun wq3 MM4=>?_)
  refine lT FF2 (i:=0) (oi:=(opAt Tryz.f70 2 0)) (v:=(.agg (cn .u8 B))) (d:=11) (atL_has (is:=[3,2]) rfl MM4.hasL) (by kernel_rfl) (by kernel_rfl) (by kernel_rfl) (by kernel_rfl) (by kernel_rfl) (fun _ _ _ _ _ h=>h) (by kernel_rfl) (by decide) (by kernel_rfl) (loadRi (x:=(.tmp 3)) (k:=1) (m:=32) (by kernel_rfl) rfl Tryz.underlying52 rfl (by kernel_rfl) rfl ((cZ _ _).trans hB.1)) fun _ FF5=>?_
  refine lT FF5 (i:=1) (oi:=(opAt Tryz.f70 2 1)) (v:=(.agg (cn .u8 A))) (d:=12) (atL_has (is:=[3,2]) rfl MM4.hasL) (by kernel_rfl) (by kernel_rfl) (by kernel_rfl) (by kernel_rfl) (by kernel_rfl) (fun _ _ _ _ _ h=>h) (by kernel_rfl) (by decide) (by kernel_rfl) (loadRi (x:=(.tmp 2)) (k:=0) (m:=32) (by kernel_rfl) rfl Tryz.underlying52 rfl (by kernel_rfl) rfl ((cZ _ _).trans hA.1)) fun _ FF6=>?_
  refine lO (i:=2) (oi:=(opAt Tryz.f70 2 2)) (by kernel_rfl) (by kernel_rfl) ?_
  refine rp_c 1 FF6 MM4 [(0,b_ 1)] 6 [12] [] (⟨rfl,((cZ _ _).trans (List.length_replicate ..)),((cZ _ _).trans hB.1),(cn_one _ _),rfl,fun _ _ FF7 MM7=>?_⟩)
  refine wpl_nil (onN_n ⟨fun _=>(atL_has (is:=[3,2]) rfl MM7.hasL),?_⟩)
  refine lO (i:=3) (oi:=(opAt Tryz.f70 2 3)) (by kernel_rfl) (by kernel_rfl) ?_
  refine rp_c 1 FF7 MM7 [(0,b_ 0)] 6 [] [] (⟨rfl,((cZ _ _).trans (List.length_replicate ..)),((cZ _ _).trans hA.1),(cn_one _ _),rfl,fun _ _ FF8 MM8=>?_⟩)
  refine wpl_nil (onN_n ⟨fun _=>(atL_has (is:=[3,2]) rfl MM8.hasL),?_⟩)
  refine late_none (by kernel_rfl) (tN ?_)
  refine wp_ret ?_
  repeat first | refine tR ?_ | refine iR ?_
  exact(ret_cc FF8 MM8 (k:=32) (k2:=32) (i:=1) (i2:=0) (j:=1) (m:=0) Tryz.results70 rfl rfl rfl rfl Tryz.underlying52 Tryz.underlying52 rfl rfl (by kernel_rfl) (by kernel_rfl) ((cZ _ _).trans hB.1) ((cZ _ _).trans hA.1) (by rw [rowN_yes hE];exact⟨rfl,MM8.below⟩))
 ·skip
  refine wp_seq (rg_dc 5 FF1 MM1 [(0,b_ 3),(0,b_ 2),(0,t_ (.agg (cn .u8 (lesN A B)))),(0,b_ 2),(0,f_ (.bool false))] [] 6 [10] [] (⟨rfl,((cZ _ _).trans hA.1),rfl,((cZ _ _).trans hB.1),(cP en_less (less_any A B ⟨hA.1,hA.2⟩ ⟨hB.1,hB.2⟩) _),rfl,((cZ _ _).trans hB.1),(eqA_ok (t:=52) (t':=52) (e:=5) (m:=32) (k:=.u8) (x:=(.tmp 8)) (y:=(.tmp 9)) (by kernel_rfl) Tryz.underlying52 Tryz.underlying5 (by kernel_rfl) (by kernel_rfl) (by kernel_rfl) rfl rfl (les_ok ⟨hA.1,hA.2⟩ ⟨hB.1,hB.2⟩).1 hB.1 (decide_eq_false hE)),fun _ _ FF9 MM9=>tN ?_⟩))
  refine wp_cond_false (FF9.ev 0 rfl) ?_
  refine wp_skip ?_
  refine tN ?_
  refine wp_seq (late_stand (N:=4) [(ba,.cells (cn .u8 A) 52),(bb,.cells (cn .u8 B) 52)] (by kernel_rfl) (by kernel_rfl) MM9 fun wq10 MM11=>?_)
  refine lT FF9 (i:=0) (oi:=(opAt Tryz.f70 3 0)) (v:=(.agg (cn .u8 A))) (d:=13) (atL_has (is:=[3,2]) rfl MM11.hasL) (by kernel_rfl) (by kernel_rfl) (by kernel_rfl) (by kernel_rfl) (by kernel_rfl) (fun _ _ _ _ _ h=>h) (by kernel_rfl) (by decide) (by kernel_rfl) (loadRi (x:=(.tmp 2)) (k:=0) (m:=32) (by kernel_rfl) rfl Tryz.underlying52 rfl (by kernel_rfl) rfl ((cZ _ _).trans hA.1)) fun _ FF12=>?_
  refine lT FF12 (i:=1) (oi:=(opAt Tryz.f70 3 1)) (v:=(.agg (cn .u8 B))) (d:=14) (atL_has (is:=[3,2]) rfl MM11.hasL) (by kernel_rfl) (by kernel_rfl) (by kernel_rfl) (by kernel_rfl) (by kernel_rfl) (fun _ _ _ _ _ h=>h) (by kernel_rfl) (by decide) (by kernel_rfl) (loadRi (x:=(.tmp 3)) (k:=1) (m:=32) (by kernel_rfl) rfl Tryz.underlying52 rfl (by kernel_rfl) rfl ((cZ _ _).trans hB.1)) fun _ FF13=>?_
  refine lO (i:=2) (oi:=(opAt Tryz.f70 3 2)) (by kernel_rfl) (by kernel_rfl) ?_
  refine rp_c 1 FF13 MM11 [(0,b_ 1)] 6 [14] [] (⟨rfl,((cZ _ _).trans (List.length_replicate ..)),((cZ _ _).trans hA.1),(cn_one _ _),rfl,fun _ _ FF14 MM14=>?_⟩)
  refine wpl_nil (onN_n ⟨fun _=>(atL_has (is:=[3,2]) rfl MM14.hasL),?_⟩)
  refine lO (i:=3) (oi:=(opAt Tryz.f70 3 3)) (by kernel_rfl) (by kernel_rfl) ?_
  refine rp_c 1 FF14 MM14 [(0,b_ 0)] 6 [] [] (⟨rfl,((cZ _ _).trans (List.length_replicate ..)),((cZ _ _).trans hB.1),(cn_one _ _),rfl,fun _ _ FF15 MM15=>?_⟩)
  refine wpl_nil (onN_n ⟨fun _=>(atL_has (is:=[3,2]) rfl MM15.hasL),?_⟩)
  refine late_none (by kernel_rfl) (tN ?_)
  refine wp_ret ?_
  repeat first | refine tR ?_ | refine iR ?_
  exact(ret_cc FF15 MM15 (k:=32) (k2:=32) (i:=1) (i2:=0) (j:=1) (m:=0) Tryz.results70 rfl rfl rfl rfl Tryz.underlying52 Tryz.underlying52 rfl rfl (by kernel_rfl) (by kernel_rfl) ((cZ _ _).trans hA.1) ((cZ _ _).trans hB.1) (by rw [rowN_no hE];exact⟨rfl,MM15.below⟩))
theorem keyof_any (Tg:TypeId)(fg:Nat×Nat)(L X Y Z:List Nat)(hL:∀i,L.getD i 0<256)(hl:L.length≤100)(hX:BytesK 32 X)(hY:BytesK 32 Y)(hZ:BytesK 32 Z)(w0:World)(hg:w0.heap[0]? = some (.cells (cn .u32 kTab) Tg fg)) :
  Calls Tryz.prog 71 #[sB L,.agg (cn .u8 X),.agg (cn .u8 Y),.agg (cn .u8 Z)] w0 fun e w'=>e=.returned (.agg (cn .u8 (kyN L X Y Z)))∧Below w0.heap.size w0 w':=by
 have MM:=MemS.start1 hg
 refine eF Tryz.func71 rfl Tryz.ntmps71 (by simp) fun ac (FF:Fr 18 ac [(0,sB L),(1,.agg (cn .u8 X)),(2,.agg (cn .u8 Y)),(3,.agg (cn .u8 Z))])=>?_
 have hx1:=hX.1
 have hy1:=hY.1
 have hz1:=hZ.1
 refine wp_seq (rg_c FF MM [(0,s_ 0 (.cells (cn .u8 X) 52)),(0,s_ 0 (.cells (cn .u8 Y) 52)),(0,s_ 0 (.cells (cn .u8 Z) 52)),(0,s_ 0 (.cells (cn .u8 (List.replicate 32 0)) 52))] 9 [] [1,2,3] (⟨(by kernel_rfl),fun bx=>⟨(by kernel_rfl),fun by_=>⟨(by kernel_rfl),fun bz=>⟨(by kernel_rfl),fun br=>fun _ _ FF1 MM1=>tN ?_⟩⟩⟩⟩))
 refine wp_seq (rg_draw FF1 MM1 [.inl (sB L),.inl (.slice (some ⟨bx,0,none⟩) 32 32),.inl (sB X),.inl (.slice (some ⟨by_,0,none⟩) 32 32),.inl (sB Y),.inl (.slice (some ⟨bz,0,none⟩) 32 32),.inl (sB Z),.inr (oC #[sB X,sB Y,sB Z] 9,fun b=>.slice (some ⟨b,0,none⟩) 3 3),.inl (.agg (cn .u8 (shaN (packN [L]++packN ([X,Y,Z])))))] [] [o_,o_,l_ 3 (sB X),o_,l_ 2 (sB Y),o_,l_ 1 (sB Z),o_,u_ 1 (.agg (cn .u8 (shaN (packN [L]++packN ([X,Y,Z])))))] [b_ 0] [8] (fun nb=>[0≤32,32≤32,0<32,bx=bx,StrAt (cn .u8 X) 0 32 (bs X),0≤32,32≤32,0<32,by_=by_,StrAt (cn .u8 Y) 0 32 (bs Y),0≤32,32≤32,0<32,bz=bz,StrAt (cn .u8 Z) 0 32 (bs Z),CallP Tryz.prog 96 [sB L,.slice (some ⟨(nb 7),0,none⟩) 3 3] [((nb 7),oC #[sB X,sB Y,sB Z] 9),(br,.cells (cn .u8 (List.replicate 32 0)) 52),(bz,.cells (cn .u8 Z) 52),(by_,.cells (cn .u8 Y) 52),(bx,.cells (cn .u8 X) 52),(0,.cells (cn .u32 kTab) Tg fg)] (.agg (cn .u8 (shaN (packN [L]++packN ([X,Y,Z])))))]) (fun nb Kt=>br=br∧(cn .u8 (List.replicate 32 0)).size=32∧(cn .u8 (shaN (packN [L]++packN ([X,Y,Z])))).size=32∧(cn .u8 (shaN (packN [L]++packN ([X,Y,Z])))).all (·.oneCell')=true∧(0,0).2=0∧Kt [(8,pT br)] [(br,.cells (cn .u8 (shaN (packN [L]++packN ([X,Y,Z])))) 52),(bz,.cells (cn .u8 Z) 52),(by_,.cells (cn .u8 Y) 52),(bx,.cells (cn .u8 X) 52),(0,.cells (cn .u32 kTab) Tg fg)]) (by kernel_rfl) (by kernel_rfl) (by kernel_rfl) (fun _=>by kernel_rfl) (fun _ _=>by kernel_rfl) trivial (fun nb=>⟨by decide,by decide,by decide,rfl,(str_all hX.1 hX.2),by decide,by decide,by decide,rfl,(str_all hY.1 hY.2),by decide,by decide,by decide,rfl,(str_all hZ.1 hZ.2),⟨en_key,fun w Hw=>key_any Tg fg L hL ([X,Y,Z]) (lt3t hX.2 hY.2 hZ.2) (by simp only [packN_len,List.length_cons,List.length_nil,List.flatten_cons,List.flatten_nil,List.append_nil,List.length_append];omega) (some ⟨(nb 7),0,none⟩) 3 w (.inr ⟨(nb 7),0,_,_,_,rfl,Hw 0 _ rfl,(at3s X Y Z)⟩) (Hw 5 _ rfl)⟩,trivial⟩) (fun nb=>⟨rfl,((cZ _ _).trans (List.length_replicate ..)),((cZ _ _).trans (shaN_bytes _).len),(cn_one _ _),rfl,fun _ _ FF2 MM2=>tN ?_⟩))
 refine wp_ret ?_
 repeat first | refine tR ?_ | refine iR ?_
 exact(retc FF2 MM2 (k:=32) (i:=0) (j:=0) Tryz.results71 rfl rfl Tryz.underlying52 rfl (by kernel_rfl) ((cZ _ _).trans (shaN_bytes _).len) ⟨rfl,MM2.below1 4 rfl hg⟩)
theorem tnon_any (r:Nat)(hr:r<18446744073709551616)(w0:World) :
  Calls Tryz.prog 80 #[iW r] w0 fun e w'=>e=.returned (.agg (cn .u8 (nonN 3 r)))∧Below w0.heap.size w0 w':=by
 refine eF Tryz.func80 rfl Tryz.ntmps80 (by simp) fun ac (FF:Fr 5 ac [(0,iW r)])=>?_
 have MM:=MemS.start w0
 refine wp_seq (rg_c FF MM [(0,s_ 0 (.cells (cn .u8 (List.replicate 12 0)) 124))] 3 [] [] (⟨(by kernel_rfl),fun bo=>fun _ _ FF1 MM1=>tN ?_⟩))
 refine wp_seq (rg_c FF1 MM1 [(1,t_ (.agg (cn .u8 (nonN 3 r)))),(0,b_ 0)] 0 [2] [] (⟨(cP en_nonce (nonce_any 3 r (by decide) (by have:=hr;omega)) _),rfl,((cZ _ _).trans (List.length_replicate ..)),((cZ _ _).trans (nonN_len _ _)),(cn_one _ _),rfl,fun _ _ FF2 MM2=>tN ?_⟩))
 refine wp_ret ?_
 repeat first | refine tR ?_ | refine iR ?_
 exact(retc FF2 MM2 (k:=12) (i:=0) (j:=0) Tryz.results80 rfl rfl Tryz.underlying124 rfl (by kernel_rfl) ((cZ _ _).trans (nonN_len _ _)) ⟨rfl,MM2.below⟩)
theorem tname_any (Tg:TypeId)(fg:Nat×Nat)(R:List Nat)(r:Nat)(hR:BytesK 32 R)(hr:r<18446744073709551616)(w0:World)(hg:w0.heap[0]? = some (.cells (cn .u32 kTab) Tg fg)) :
  Calls Tryz.prog 38 #[.agg (cn .u8 R),iW r] w0 fun e w'=>e=.returned (.agg (cn .u8 (nmN R r)))∧Below w0.heap.size w0 w':=by
 have MM:=MemS.start1 hg
 refine eF Tryz.func38 rfl Tryz.ntmps38 (by simp) fun ac (FF:Fr 11 ac [(0,.agg (cn .u8 R)),(1,iW r)])=>?_
 have hr1:=hR.1
 refine wp_seq (rg_c FF MM [(0,s_ 0 (.cells (cn .u8 R) 52)),(0,s_ 0 (.cells (cn .u8 (List.replicate 16 0)) 95))] 5 [] [0] (⟨(by kernel_rfl),fun bq=>⟨(by kernel_rfl),fun br=>fun _ _ FF1 MM1=>tN ?_⟩⟩))
 refine wp_seq (rg_draw FF1 MM1 [.inl (.slice (some ⟨bq,0,none⟩) 32 32),.inl (sB R),.inl (iW r),.inl (sB (leN 8 r)),.inr (oC #[sB R,sB (leN 8 r)] 9,fun b=>.slice (some ⟨b,0,none⟩) 2 2),.inl (.agg (cn .u8 (idN ([98,105,108,108,101,116,32,110,97,109,101]) ([R,leN 8 r]))))] [] [o_,l_ 1 (sB R),o_,t_ (sB (leN 8 r)),o_,u_ 1 (.agg (cn .u8 (idN ([98,105,108,108,101,116,32,110,97,109,101]) ([R,leN 8 r]))))] [b_ 0] [4] (fun nb=>[0≤32,32≤32,0<32,bq=bq,StrAt (cn .u8 R) 0 32 (bs R),CallP Tryz.prog 74 [iW r] [] (sB (leN 8 r)),CallP Tryz.prog 73 [sB ([98,105,108,108,101,116,32,110,97,109,101]),.slice (some ⟨(nb 4),0,none⟩) 2 2] [((nb 4),oC #[sB R,sB (leN 8 r)] 9),(br,.cells (cn .u8 (List.replicate 16 0)) 95),(bq,.cells (cn .u8 R) 52),(0,.cells (cn .u32 kTab) Tg fg)] (.agg (cn .u8 (idN ([98,105,108,108,101,116,32,110,97,109,101]) ([R,leN 8 r]))))]) (fun nb Kt=>br=br∧(cn .u8 (List.replicate 16 0)).size=16∧(cn .u8 (idN ([98,105,108,108,101,116,32,110,97,109,101]) ([R,leN 8 r]))).size=16∧(cn .u8 (idN ([98,105,108,108,101,116,32,110,97,109,101]) ([R,leN 8 r]))).all (·.oneCell')=true∧(0,0).2=0∧Kt [(4,pT br)] [(br,.cells (cn .u8 (idN ([98,105,108,108,101,116,32,110,97,109,101]) ([R,leN 8 r]))) 95),(bq,.cells (cn .u8 R) 52),(0,.cells (cn .u32 kTab) Tg fg)]) (by kernel_rfl) (by kernel_rfl) (by kernel_rfl) (fun _=>by kernel_rfl) (fun _ _=>by kernel_rfl) trivial (fun nb=>⟨by decide,by decide,by decide,rfl,(str_all hR.1 hR.2),(cP en_round (round_any r (by have:=hr;omega)) _),⟨en_did,fun w Hw=>did_any Tg fg ([98,105,108,108,101,116,32,110,97,109,101]) (lit_lt rfl) ([R,leN 8 r]) (lt2 hR.2 (leN_lt _ _)) (by simp only [packN_len,List.length_cons,List.length_nil,List.flatten_cons,List.flatten_nil,List.append_nil,List.length_append,leN_len];omega) (some ⟨(nb 4),0,none⟩) 2 w (.inr ⟨(nb 4),0,_,_,_,rfl,Hw 0 _ rfl,(at2s R (leN 8 r))⟩) (Hw 3 _ rfl)⟩,trivial⟩) (fun nb=>⟨rfl,((cZ _ _).trans (List.length_replicate ..)),((cZ _ _).trans (idN_len _ _)),(cn_one _ _),rfl,fun _ _ FF2 MM2=>tN ?_⟩))
 refine wp_ret ?_
 repeat first | refine tR ?_ | refine iR ?_
 exact(retc FF2 MM2 (k:=16) (i:=0) (j:=0) Tryz.results38 rfl rfl Tryz.underlying95 rfl (by kernel_rfl) ((cZ _ _).trans (idN_len _ _)) ⟨rfl,MM2.below1 2 rfl hg⟩)
theorem meet_ok (Tg:TypeId)(fg:Nat×Nat)(A B:List Nat)(hA:BytesK 32 A)(hB:BytesK 32 B)(hz:¬curveN A B=0)(w0:World)(hg:w0.heap[0]? = some (.cells (cn .u32 kTab) Tg fg)) :
  Calls Tryz.prog 36 #[.agg (cn .u8 A),.agg (cn .u8 B)] w0 fun e w'=>e=.returned (.tuple #[.agg ((cn .u8 (outN A B))++((cn .u8 (inN A B))++(cn .u8 (rootN A B)))),iN 0])∧Below w0.heap.size w0 w':=by
 have MM:=MemS.start1 hg
 refine eF Tryz.func36 rfl Tryz.ntmps36 (by simp) fun ac (FF:Fr 42 ac [(0,.agg (cn .u8 A)),(1,.agg (cn .u8 B))])=>?_
 refine wp_seq (rg_c FF MM [(0,s_ 0 (.cells (cn .u8 A) 52)),(0,s_ 0 (.cells (cn .u8 B) 52)),(0,s_ 0 (.cells ((cn .u8 (List.replicate 32 0))++(cn .u8 (List.replicate 32 0))++(cn .u8 (List.replicate 32 0))) 87))] 6 [] [0,1] (⟨(by kernel_rfl),fun ba=>⟨(by kernel_rfl),fun bb=>⟨(by kernel_rfl),fun bp=>fun _ _ FF1 MM1=>tN ?_⟩⟩⟩))
 refine wp_seq (rg_c FF1 MM1 [(0,b_ 2),(0,b_ 1),(0,t_ (.tuple #[.agg (cn .u8 (ssN A B)),iN 0])),(3,s_ 0 (.cells (cn .u8 (List.replicate 32 0)) 52)),(0,b_ 0)] 8 [] [] (⟨rfl,((cZ _ _).trans hA.1),rfl,((cZ _ _).trans hB.1),(cP en_cshared (by have h0:=cshared_any A B ⟨hA.1,hA.2⟩ ⟨hB.1,hB.2⟩;rw [if_neg hz]at h0;exact h0) _),(by kernel_rfl),fun bs_=>⟨rfl,((cZ _ _).trans (List.length_replicate ..)),((cZ _ _).trans (ssN_ok A B).1),(cn_one _ _),rfl,fun _ _ FF2 MM2=>tN ?_⟩⟩))
 refine wp_seq ?_
 refine wp_seq (rg_c FF2 MM2 [(1,w_ 3)] 8 [18] [] (⟨by decide,fun _ _ FF3 MM3=>tN ?_⟩))
 refine wp_cond_false (FF3.ev 0 rfl) ?_
 refine wp_skip ?_
 refine tN ?_
 refine wp_seq (rg_c FF3 MM3 [(0,b_ 3),(0,t_ (.agg (cn .u8 (pbN A)))),(0,s_ 0 (.cells (cn .u8 (List.replicate 32 0)) 52)),(0,b_ 0)] 9 [] [] (⟨rfl,((cZ _ _).trans hA.1),(cP en_cpub (cpub_any A ⟨hA.1,hA.2⟩) _),(by kernel_rfl),fun bo=>⟨rfl,((cZ _ _).trans (List.length_replicate ..)),((cZ _ _).trans (pbN_ok A).1),(cn_one _ _),rfl,fun _ _ FF4 MM4=>tN ?_⟩⟩))
 refine wp_seq (rg_c FF4 MM4 [(0,b_ 0),(0,b_ 3),(0,t_ (.tuple #[.agg (cn .u8 ((rowN (pbN A) B).1)),.agg (cn .u8 ((rowN (pbN A) B).2))])),(3,s_ 0 (.cells (cn .u8 (List.replicate 32 0)) 52)),(0,s_ 0 (.cells (cn .u8 (List.replicate 32 0)) 52)),(0,b_ 1),(0,b_ 0)] 11 [] [] (⟨rfl,((cZ _ _).trans (pbN_ok A).1),rfl,((cZ _ _).trans hB.1),(cP en_row (row_any (pbN A) B ⟨(pbN_ok A).1,(pbN_ok A).2⟩ ⟨hB.1,hB.2⟩) _),(by kernel_rfl),fun bl=>⟨(by kernel_rfl),fun bh=>⟨rfl,((cZ _ _).trans (List.length_replicate ..)),((cZ _ _).trans (rowN_ok ⟨(pbN_ok A).1,(pbN_ok A).2⟩ ⟨hB.1,hB.2⟩).1.1),(cn_one _ _),rfl,rfl,((cZ _ _).trans (List.length_replicate ..)),((cZ _ _).trans (rowN_ok ⟨(pbN_ok A).1,(pbN_ok A).2⟩ ⟨hB.1,hB.2⟩).2.1),(cn_one _ _),rfl,fun _ _ FF5 MM5=>tN ?_⟩⟩⟩))
 refine wp_seq (rg_dc 13 FF5 MM5 [(0,b_ 3),(0,b_ 2),(0,b_ 5),(0,u_ 1 (.agg (cn .u8 (outN A B)))),(0,b_ 3),(0,b_ 5),(0,b_ 2),(0,u_ 1 (.agg (cn .u8 (inN A B)))),(0,b_ 3),(0,b_ 1),(0,b_ 0),(0,u_ 1 (.agg (cn .u8 (rootN A B)))),(0,f_ (.agg ((cn .u8 (outN A B))++((cn .u8 (inN A B))++(cn .u8 (rootN A B))))))] [(0,b_ 4)] 11 [] [] (⟨rfl,((cZ _ _).trans (ssN_ok A B).1),rfl,((cZ _ _).trans (pbN_ok A).1),rfl,((cZ _ _).trans hB.1),⟨en_keyof,fun w Hw=>keyof_any Tg fg tLab (ssN A B) (pbN A) B (lit_lt (by kernel_rfl)) (by decide) ⟨(ssN_ok A B).1,(ssN_ok A B).2⟩ ⟨(pbN_ok A).1,(pbN_ok A).2⟩ ⟨hB.1,hB.2⟩ w (Hw 7 _ rfl)⟩,rfl,((cZ _ _).trans (ssN_ok A B).1),rfl,((cZ _ _).trans hB.1),rfl,((cZ _ _).trans (pbN_ok A).1),⟨en_keyof,fun w Hw=>keyof_any Tg fg tLab (ssN A B) B (pbN A) (lit_lt (by kernel_rfl)) (by decide) ⟨(ssN_ok A B).1,(ssN_ok A B).2⟩ ⟨hB.1,hB.2⟩ ⟨(pbN_ok A).1,(pbN_ok A).2⟩ w (Hw 7 _ rfl)⟩,rfl,((cZ _ _).trans (ssN_ok A B).1),rfl,((cZ _ _).trans (rowN_ok ⟨(pbN_ok A).1,(pbN_ok A).2⟩ ⟨hB.1,hB.2⟩).1.1),rfl,((cZ _ _).trans (rowN_ok ⟨(pbN_ok A).1,(pbN_ok A).2⟩ ⟨hB.1,hB.2⟩).2.1),⟨en_keyof,fun w Hw=>keyof_any Tg fg dLab (ssN A B) ((rowN (pbN A) B).1) ((rowN (pbN A) B).2) (lit_lt (by kernel_rfl)) (by decide) ⟨(ssN_ok A B).1,(ssN_ok A B).2⟩ ⟨(rowN_ok ⟨(pbN_ok A).1,(pbN_ok A).2⟩ ⟨hB.1,hB.2⟩).1.1,(rowN_ok ⟨(pbN_ok A).1,(pbN_ok A).2⟩ ⟨hB.1,hB.2⟩).1.2⟩ ⟨(rowN_ok ⟨(pbN_ok A).1,(pbN_ok A).2⟩ ⟨hB.1,hB.2⟩).2.1,(rowN_ok ⟨(pbN_ok A).1,(pbN_ok A).2⟩ ⟨hB.1,hB.2⟩).2.2⟩ w (Hw 7 _ rfl)⟩,(build_ok (t:=87) (ps:=#[(0,(.tmp 32)),(1,(.tmp 36)),(2,(.tmp 40))]) (by kernel_rfl) rfl (built_fits (pl:=[(0,32),(32,32),(64,32)]) (tot:=96) (n:=32) (by kernel_rfl) (by kernel_rfl) (ns:=[32,32]) ⟨rfl,(show(cn .u8 (outN A B)).size=32 from((cZ _ _).trans (outN_ok A B).1)),rfl,(show(cn .u8 (inN A B)).size=32 from((cZ _ _).trans (inN_ok A B).1)),rfl,(show(cn .u8 (rootN A B)).size=32 from((cZ _ _).trans (rootN_ok A B).1)),rfl⟩ (Array.append_assoc (xs:=cn .u8 (outN A B))))),rfl,(by simp [cZ]),(by simp [cZ,(outN_ok A B).1,(inN_ok A B).1,(rootN_ok A B).1]),(one_app (cn_one _ _) (one_app (cn_one _ _) (cn_one _ _))),rfl,fun _ _ FF6 MM6=>tN ?_⟩))
 refine wp_ret ?_
 repeat first | refine tR ?_ | refine iR ?_
 exact(ret_ct FF6 MM6 (k:=96) (i:=4) (j:=6) (m:=0) Tryz.results36 rfl rfl rfl Tryz.underlying87 rfl (by kernel_rfl) (by simp [cZ,(outN_ok A B).1,(inN_ok A B).1,(rootN_ok A B).1]) ⟨rfl,MM6.below1 7 rfl hg⟩)
theorem meet_weak (Tg:TypeId)(fg:Nat×Nat)(A B:List Nat)(hA:BytesK 32 A)(hB:BytesK 32 B)(hz:curveN A B=0)(w0:World)(hg:w0.heap[0]? = some (.cells (cn .u32 kTab) Tg fg)) :
  Calls Tryz.prog 36 #[.agg (cn .u8 A),.agg (cn .u8 B)] w0 fun e w'=>e=.returned (.tuple #[.agg ((cn .u8 (List.replicate 32 0))++(cn .u8 (List.replicate 32 0))++(cn .u8 (List.replicate 32 0))),iN 2])∧Below w0.heap.size w0 w':=by
 have MM:=MemS.start1 hg
 refine eF Tryz.func36 rfl Tryz.ntmps36 (by simp) fun ac (FF:Fr 42 ac [(0,.agg (cn .u8 A)),(1,.agg (cn .u8 B))])=>?_
 refine wp_seq (rg_c FF MM [(0,s_ 0 (.cells (cn .u8 A) 52)),(0,s_ 0 (.cells (cn .u8 B) 52)),(0,s_ 0 (.cells ((cn .u8 (List.replicate 32 0))++(cn .u8 (List.replicate 32 0))++(cn .u8 (List.replicate 32 0))) 87))] 6 [] [0,1] (⟨(by kernel_rfl),fun ba=>⟨(by kernel_rfl),fun bb=>⟨(by kernel_rfl),fun bp=>fun _ _ FF1 MM1=>tN ?_⟩⟩⟩))
 refine wp_seq (rg_c FF1 MM1 [(0,b_ 2),(0,b_ 1),(0,t_ (.tuple #[.agg (cn .u8 (ssN A B)),iN 2])),(3,s_ 0 (.cells (cn .u8 (List.replicate 32 0)) 52)),(0,b_ 0)] 8 [] [] (⟨rfl,((cZ _ _).trans hA.1),rfl,((cZ _ _).trans hB.1),(cP en_cshared (by have h0:=cshared_any A B ⟨hA.1,hA.2⟩ ⟨hB.1,hB.2⟩;rw [if_pos hz]at h0;exact h0) _),(by kernel_rfl),fun bs_=>⟨rfl,((cZ _ _).trans (List.length_replicate ..)),((cZ _ _).trans (ssN_ok A B).1),(cn_one _ _),rfl,fun _ _ FF2 MM2=>tN ?_⟩⟩))
 refine wp_seq ?_
 refine wp_seq (rg_c FF2 MM2 [(1,w_ 2)] 8 [18] [] (⟨by decide,fun _ _ FF3 MM3=>tN ?_⟩))
 refine wp_cond_true (FF3.ev 0 rfl) ?_
 refine wp_seq (rg_c FF3 MM3 [(0,t_ (.agg ((cn .u8 (List.replicate 32 0))++(cn .u8 (List.replicate 32 0))++(cn .u8 (List.replicate 32 0))))),(1,b_ 1)] 8 [] [] (⟨(by kernel_rfl),rfl,(by simp [cZ]),(by simp [cZ]),(one_app (one_app (cn_one _ _) (cn_one _ _)) (cn_one _ _)),rfl,fun _ _ FF4 MM4=>tN ?_⟩))
 refine wp_ret ?_
 repeat first | refine tR ?_ | refine iR ?_
 exact(ret_ct FF4 MM4 (k:=96) (i:=1) (j:=3) (m:=0) Tryz.results36 rfl rfl rfl Tryz.underlying87 rfl (by kernel_rfl) (by simp [cZ]) ⟨rfl,MM4.below1 4 rfl hg⟩)
theorem cons_lt {a:Nat}{X:List Nat}(ha:a<256)(hX:∀i,X.getD i 0<256):∀i,(a::X).getD i 0<256
 | 0=>ha
 | i+1=>hX i
def bodyN (X:List Nat):List Nat:=X.length::(X++List.replicate (19-X.length) 0)
def bodyR (X:List Nat):List Nat×Nat:=if X.length≤19 then(bodyN X,0)else([],4)
theorem bodyR_ok {X:List Nat}(h:X.length≤19):bodyR X=(bodyN X,0):=if_pos h
theorem bodyR_no {X:List Nat}(h:X.length>19):bodyR X=([],4):=if_neg (by omega)
theorem bodyN_len {X:List Nat}(h:X.length≤19):(bodyN X).length=20:=by
 simp only [bodyN,List.length_cons,List.length_append,List.length_replicate]
 omega
theorem bodyN_lt {X:List Nat}(hX:∀i,X.getD i 0<256)(h:X.length≤19):∀i,(bodyN X).getD i 0<256:=cons_lt (by omega) (app_lt hX (rep0_lt))
theorem body_cells {X:List Nat}(h:X.length≤19):setFrom (cn .u8 ((List.replicate 20 0).set 0 X.length)) 1 (bcells (X.take 19))=cn .u8 (bodyN X):=by
 have h1:=setFrom_cat (Y:=(List.replicate 20 0).set 0 X.length) (Z:=X) (d:=#[]) (k:=1) (by simp;omega)
 rw [Array.append_empty,Array.append_empty]at h1
 rw [List.take_of_length_le h,h1]
 congr 1
 rw [show(List.replicate 20 0).set 0 X.length=X.length::List.replicate 19 0 by rfl,Nat.add_comm,List.drop_succ_cons,List.drop_replicate]
 rfl
def textN (B:List Nat):List Nat:=(B.take (1+B.getD 0 0)).drop 1
def textR (B:List Nat):List Nat×Bool:=if B.length=20∧B.getD 0 0≤19∧bodyN (textN B)=B then(textN B,true)else([],false)
theorem textN_len {B:List Nat}(h:B.length=20)(h2:B.getD 0 0≤19):(textN B).length=B.getD 0 0:=by
 simp only [textN,List.length_drop,List.length_take]
 omega
theorem textN_lt {B:List Nat}(hB:∀i,B.getD i 0<256):∀i,(textN B).getD i 0<256:=drop_lt (take_lt hB)
theorem textR_ok {B:List Nat}(h1:B.length=20)(h2:B.getD 0 0≤19)(h3:bodyN (textN B)=B):textR B=(textN B,true):=if_pos ⟨h1,h2,h3⟩
theorem textR_len {B:List Nat}(h:B.length≠20):textR B=([],false):=if_neg fun q=>h q.1
theorem textR_big {B:List Nat}(h:B.getD 0 0>19):textR B=([],false):=if_neg fun q=>by have:=q.2.1;omega
theorem textR_else {B:List Nat}(h:¬bodyN (textN B)=B):textR B=([],false):=if_neg fun q=>h q.2.2
theorem text_body {X:List Nat}(h:X.length≤19):textR (bodyN X)=(X,true):=by
 have e:textN (bodyN X)=X:=by
  rw [textN,show(bodyN X).getD 0 0=X.length from rfl,bodyN,Nat.add_comm,List.take_succ_cons,List.drop_succ_cons,List.drop_zero,List.take_append_of_le_length (Nat.le_refl _),List.take_length]
 have h2:=textR_ok (B:=bodyN X) (bodyN_len h) h (by rw [e])
 rw [h2,e]
def requestR (D B:List Nat):List Nat×Nat:=if B.length=36 then(D++B,0)else([],5)
theorem requestR_ok {D B:List Nat}(h:B.length=36):requestR D B=(D++B,0):=if_pos h
theorem requestR_no {D B:List Nat}(h:B.length≠36):requestR D B=([],5):=if_neg h
def partsR (X:List Nat):List Nat×List Nat×Bool:=if X.length=52 then(X.take 16,X.drop 16,true)else(List.replicate 16 0,[],false)
theorem partsR_ok {X:List Nat}(h:X.length=52):partsR X=(X.take 16,X.drop 16,true):=if_pos h
theorem partsR_no {X:List Nat}(h:X.length≠52):partsR X=(List.replicate 16 0,[],false):=if_neg h
theorem parts_cells {X:List Nat}(h:X.length=52):setFrom (cn .u8 (List.replicate 16 0)) 0 (bcells (X.take 16))=cn .u8 (X.take 16):=setFrom_new8 (by rw [List.length_take,List.length_replicate,h];rfl)
theorem en_lclone:Enters Tryz.prog 99:=fun args w=>by simp [go_sem]
theorem en_clone:Enters Tryz.prog 64:=fun args w=>by simp [go_sem]
theorem en_repeat:Enters Tryz.prog 81:=fun args w=>by simp [go_sem]
def renR:Go.Shelf.Ren:=⟨fun | 99=>117 | 105=>81 | 165=>118 | 166=>119 | 169=>121 | 170=>120 | 206=>149 | 212=>116 | 240=>150 | 241=>151 | 263=>147 | 264=>148 | 276=>179 | 277=>180 | n=>n,fun | 0=>0 | 3=>3 | 4=>4 | 5=>5 | 9=>9 | 20=>20 | 37=>77 | 46=>153 | 51=>126 | 53=>22 | 70=>212 | 72=>214 | 75=>217 | 76=>218 | 80=>220 | 109=>209 | 127=>232 | 146=>249 | 148=>251 | 164=>287 | n=>n,fun | n=>n⟩
theorem layR:Go.Proofs.Lays.n105 Tryz.prog renR:={
 mixed:=by kernel_rfl
 f99:=Tryz.func117.trans (congrArg some (by kernel_rfl))
 f105:=Tryz.func81.trans (congrArg some (by kernel_rfl))
 f165:=Tryz.func118.trans (congrArg some (by kernel_rfl))
 f166:=Tryz.func119.trans (congrArg some (by kernel_rfl))
 f169:=Tryz.func121.trans (congrArg some (by kernel_rfl))
 f170:=Tryz.func120.trans (congrArg some (by kernel_rfl))
 f206:=Tryz.func149.trans (congrArg some (by kernel_rfl))
 f212:=Tryz.func116.trans (congrArg some (by kernel_rfl))
 f240:=Tryz.func150.trans (congrArg some (by kernel_rfl))
 f241:=Tryz.func151.trans (congrArg some (by kernel_rfl))
 f263:=Tryz.func147.trans (congrArg some (by kernel_rfl))
 f264:=Tryz.func148.trans (congrArg some (by kernel_rfl))
 f276:=Tryz.func179.trans (congrArg some (by kernel_rfl))
 f277:=Tryz.func180.trans (congrArg some (by kernel_rfl))
 t0:=Tryz.underlying0
 a0:=Tryz.isAgg0
 z0:=Tryz.sizeOf0
 v0:=Tryz.zeroValue0
 t3:=Tryz.underlying3
 a3:=Tryz.isAgg3
 z3:=Tryz.sizeOf3
 v3:=Tryz.zeroValue3
 t4:=Tryz.underlying4
 a4:=Tryz.isAgg4
 z4:=Tryz.sizeOf4
 v4:=Tryz.zeroValue4
 t5:=Tryz.underlying5
 a5:=Tryz.isAgg5
 z5:=Tryz.sizeOf5
 v5:=Tryz.zeroValue5
 t9:=Tryz.underlying9
 a9:=Tryz.isAgg9
 z9:=Tryz.sizeOf9
 v9:=Tryz.zeroValue9
 t20:=Tryz.underlying20
 a20:=Tryz.isAgg20
 z20:=Tryz.sizeOf20
 v20:=Tryz.zeroValue20
 t37:=Tryz.underlying77
 a37:=Tryz.isAgg77
 z37:=Tryz.sizeOf77
 v37:=Tryz.zeroValue77
 t46:=Tryz.underlying153
 a46:=Tryz.isAgg153
 z46:=Tryz.sizeOf153
 v46:=Tryz.zeroValue153
 t51:=Tryz.underlying126
 a51:=Tryz.isAgg126
 z51:=Tryz.sizeOf126
 v51:=Tryz.zeroValue126
 t53:=Tryz.underlying22
 a53:=Tryz.isAgg22
 z53:=Tryz.sizeOf22
 v53:=Tryz.zeroValue22
 t70:=Tryz.underlying212
 a70:=Tryz.isAgg212
 z70:=Tryz.sizeOf212
 v70:=Tryz.zeroValue212
 t72:=Tryz.underlying214
 a72:=Tryz.isAgg214
 z72:=Tryz.sizeOf214
 v72:=Tryz.zeroValue214
 t75:=Tryz.underlying217
 a75:=Tryz.isAgg217
 z75:=Tryz.sizeOf217
 v75:=Tryz.zeroValue217
 t76:=Tryz.underlying218
 a76:=Tryz.isAgg218
 z76:=Tryz.sizeOf218
 v76:=Tryz.zeroValue218
 t109:=Tryz.underlying209
 a109:=Tryz.isAgg209
 z109:=Tryz.sizeOf209
 v109:=Tryz.zeroValue209
 t127:=Tryz.underlying232
 a127:=Tryz.isAgg232
 z127:=Tryz.sizeOf232
 v127:=Tryz.zeroValue232
 t146:=Tryz.underlying249
 a146:=Tryz.isAgg249
 z146:=Tryz.sizeOf249
 v146:=Tryz.zeroValue249
 t148:=Tryz.underlying251
 a148:=Tryz.isAgg251
 z148:=Tryz.sizeOf251
 v148:=Tryz.zeroValue251
 t164:=Tryz.underlying287
 a164:=Tryz.isAgg287
 z164:=Tryz.sizeOf287
 v164:=Tryz.zeroValue287 }
theorem extraR:Go.Proofs.Builder.Extra Tryz.prog renR:={
 sizeBuilder:=by kernel_rfl
 liesBuilder:=by kernel_rfl
 t5:=Tryz.underlying5
 a5:=Tryz.isAgg5
 z5:=Tryz.sizeOf5
 v5:=Tryz.zeroValue5
 infoByte:=by kernel_rfl
 cellsByte:=by kernel_rfl
 sizeByte:=by kernel_rfl
 neB5:=by decide }
theorem repL_bs:∀k:Nat,Go.Lib.repeatL (bs [0]).data.toList k=(List.replicate k 0).map (UInt8.ofNat ·)
 | 0=>rfl
 | k+1=>by
  rw [Go.Lib.repeatL,repL_bs k,List.replicate_succ,List.map_cons]
  rfl
theorem repeat0_any (k:Nat)(hk:k≤100000000)(w:World):Calls Tryz.prog 81 #[sB [0],iN k] w fun e w'=>e=.returned (sB (List.replicate k 0))∧Below w.heap.size w w':=by
 have h0:=Go.Proofs.Any.strings_Repeat layR extraR (bs [0]) k w (by omega) (by rw [bs_size,List.length_singleton];omega)
 rw [repL_bs]at h0
 exact h0
theorem lclone_any (X:List Nat)(hX:∀i,X.getD i 0<256)(hl:X.length≤1000000)(w0:World) :
  Calls Tryz.prog 99 #[sB X] w0 fun e w'=>e=.returned (sB X)∧Below w0.heap.size w0 w':=by
 refine eF Tryz.func99 rfl Tryz.ntmps99 (by simp) fun ac (FF:Fr 18 ac [(0,sB X)])=>?_
 have MM:=MemS.start w0
 refine wp_seq (rg_c FF MM [(0,t_ (sB []))] 3 [] [] (⟨(by kernel_rfl),fun _ _ FF1 MM1=>tN ?_⟩))
 refine wp_seq ?_
 refine wp_seq (rg_c FF1 MM1 [(1,t_ (iN X.length))] 3 [6] [] (⟨(vI (bs_size _)),fun _ _ FF2 MM2=>tN ?_⟩))
 by_cases hs6:X.length=0
 ·refine wp_cond_true ((FF2.ev 0 rfl).trans (dec_t hs6)) ?_
  obtain rfl:X=[]:=List.eq_nil_of_length_eq_zero hs6
  refine wp_seq (rg_c FF2 MM2 [(0,t_ (sB []))] 3 [] [] (⟨(by kernel_rfl),fun _ _ FF3 MM3=>tN ?_⟩))
  refine wp_ret ?_
  repeat first | refine tR ?_ | refine iR ?_
  exact(ret_fr FF3 0 Tryz.results99 rfl ⟨rfl,MM3.below⟩)
 ·refine wp_cond_false ((FF2.ev 0 rfl).trans (dec_f hs6)) ?_
  refine wp_skip ?_
  refine tN ?_
  refine wp_seq (rg_c FF2 MM2 [(1,t_ (iN X.length)),(0,n_ (.slice none X.length X.length) (.cells (cn .u8 (List.replicate X.length 0)) 5))] 4 [] [] (⟨(vI (bs_size _)),(make_ok (t:=77) (e:=5) (p:=(.tmp 8)) (q:=(.tmp 8)) (by kernel_rfl) rfl rfl Tryz.underlying77 (by kernel_rfl) (by omega)),fun bl=>fun _ _ FF4 MM4=>tN ?_⟩))
  refine wp_seq (rg_c FF4 MM4 [(2,r_ (iN (min X.length X.length)) [(0,.cells (cn .u8 X) 5)])] 4 [] [] (⟨(copyStr_ok (p:=.tmp 10) (q:=.tmp 11) (t:=77) (tq:=9) (e:=5) (T:=5) (off:=0) (len:=X.length) (X:=X) (cs:=cn .u8 (List.replicate X.length 0)) (i:=0) (by kernel_rfl) rfl rfl hX Tryz.underlying77 (by kernel_rfl) rfl (by rw [cZ,List.length_replicate,Nat.zero_add];exact Nat.le_refl _) (by rw [List.take_length];exact setFrom_new8 (by rw [List.length_replicate]))),fun _ _ FF5 MM5=>tN ?_⟩))
  refine wp_seq (rg_c FF5 MM5 [(1,w_ 1),(2,r_ (sB X) [(0,.cells (cn .u8 X) 5 (0,X.length))])] 4 [] [] (⟨by omega,(usRow_ok (t:=232) (u:=3) (e:=5) (i:=0) (x:=.tmp 14) (y:=.tmp 16) (by kernel_rfl) rfl rfl Tryz.underlying232 (by kernel_rfl) rfl (by omega) hX (by rw [cZ];exact Nat.le_refl _) (by omega) (fun j hj=>cn_get _ _ _ hj)),fun _ _ FF6 MM6=>tN ?_⟩))
  refine wp_ret ?_
  repeat first | refine tR ?_ | refine iR ?_
  exact(ret_fr FF6 0 Tryz.results99 rfl ⟨rfl,MM6.below⟩)
theorem clone_any (X:List Nat)(hX:∀i,X.getD i 0<256)(hl:X.length≤1000000)(w0:World) :
  Calls Tryz.prog 64 #[sB X] w0 fun e w'=>e=.returned (sB X)∧Below w0.heap.size w0 w':=by
 refine eF Tryz.func64 rfl Tryz.ntmps64 (by simp) fun ac (FF:Fr 5 ac [(0,sB X)])=>?_
 have MM:=MemS.start w0
 refine wp_seq (rg_c FF MM [(0,t_ (sB []))] 3 [] [] (⟨(by kernel_rfl),fun _ _ FF1 MM1=>tN ?_⟩))
 refine wp_seq (rg_c FF1 MM1 [(1,t_ (sB X))] 0 [2] [] (⟨(cP en_lclone (lclone_any X hX hl) _),fun _ _ FF2 MM2=>tN ?_⟩))
 refine wp_ret ?_
 repeat first | refine tR ?_ | refine iR ?_
 exact(ret_fr FF2 0 Tryz.results64 rfl ⟨rfl,MM2.below⟩)
theorem pseal_any {b m1 m2 m3:Nat}{i:Bool}{t:Value}{f:Nat}{ks:Pairs}{K:List Nat}(hk:OkP 32 ks)(hK:BytesK 32 K){pn:Notes}(hp_:OkQ pn){N Y:List Nat}(hN:BytesK 12 N)(hY:∀i,Y.getD i 0<256)(hYl:Y.length≤900000)(hO:i=false→∀own,mget K ks=some own→own=K)(w0:World)(H:Has w0 [(b,oC #[.bool i,t,.map (some m1),.map (some m2),.map (some m3),iN f] 140),(m1,KM ks),(m3,NM pn)])(hD:Distinct [(b,oC #[.bool i,t,.map (some m1),.map (some m2),.map (some m3),iN f] 140),(m1,KM ks),(m3,NM pn)]) :
  Calls Tryz.prog 51 #[pT b,.agg (cn .u8 K),.agg (cn .u8 N),sB Y] w0 fun e w'=>e=.returned (sB (boxN i K N ks Y))∧TurnB [(m3,NM (noteP i K N ks Y pn))] w0 w':=by
 refine eF Tryz.func51 rfl Tryz.ntmps51 (by simp) fun ac (FF:Fr 44 ac [(0,pT b),(1,.agg (cn .u8 K)),(2,.agg (cn .u8 N)),(3,sB Y)])=>?_
 have MM:MemS (fun k=>k<w0.heap.size∧∀x∈[(b,oC #[.bool i,t,.map (some m1),.map (some m2),.map (some m3),iN f] 140),(m1,KM ks),(m3,NM pn)],x.1≠k) w0 w0 [(b,oC #[.bool i,t,.map (some m1),.map (some m2),.map (some m3),iN f] 140),(m1,KM ks),(m3,NM pn)] []:=MemS.startN H hD
 refine wp_seq (rg_c FF MM [(0,s_ 0 (.cells (cn .u8 K) 52)),(0,s_ 0 (.cells (cn .u8 N) 124)),(0,t_ (sB []))] 9 [] [1,2] (⟨(by kernel_rfl),fun bk=>⟨(by kernel_rfl),fun bn=>⟨(by kernel_rfl),fun _ _ FF1 MM1=>tN ?_⟩⟩⟩))
 refine wp_seq ?_
 cases hg:mget K ks with
 | none=>
  refine wp_seq (rg_c FF1 MM1 [(1,b_ 1),(0,u_ 1 (.bool false))] 9 [14] [] (⟨rfl,((cZ _ _).trans hK.1),(callP_B [2,3] en_pshared rfl (fun w Hw=>by have h0:=pshared_any hk hK w Hw (dN rfl (distinct_at MM1.distinct (is:=[2,3]) rfl rfl));rw [hg]at h0;exact h0)),fun _ _ FF2 MM2=>tN ?_⟩))
  refine wp_cond_true (FF2.ev 0 rfl) ?_
  refine wp_seq (rg_c FF2 MM2 [(0,b_ 1),(0,b_ 0),(1,t_ (sB (sealN K N [] Y)))] 9 [] [] (⟨rfl,((cZ _ _).trans hK.1),rfl,((cZ _ _).trans hN.1),(cP en_Seal (seal_any K N ⟨hK.1,hK.2⟩ ⟨hN.1,hN.2⟩ [] Y (lit_lt (by kernel_rfl)) hY (by decide) (by omega)) _),fun _ _ FF3 MM3=>tN ?_⟩))
  refine wp_ret ?_
  repeat first | refine tR ?_ | refine iR ?_
  exact(ret_fr FF3 0 Tryz.results51 rfl (by rw [box_no hg,noteP_no hg];exact⟨rfl,MM3.turnB [(m3,NM pn)] H (List.forall_mem_cons.2 ⟨(List.mem_of_getElem? (i:=4) rfl),(fun _ h=>(nomatch h))⟩) (List.forall_mem_cons.2 ⟨.inl (List.mem_of_getElem? (i:=2) rfl),(List.forall_mem_cons.2 ⟨.inl (List.mem_of_getElem? (i:=3) rfl),(List.forall_mem_cons.2 ⟨.inr ⟨_,(List.mem_of_getElem? (i:=0) rfl),rfl⟩,(fun _ h=>(nomatch h))⟩)⟩)⟩)⟩))
 | some own=>
  refine wp_seq (rg_c FF1 MM1 [(1,b_ 1),(0,u_ 1 (.bool true))] 9 [14] [] (⟨rfl,((cZ _ _).trans hK.1),(callP_B [2,3] en_pshared rfl (fun w Hw=>by have h0:=pshared_any hk hK w Hw (dN rfl (distinct_at MM1.distinct (is:=[2,3]) rfl rfl));rw [hg]at h0;exact h0)),fun _ _ FF4 MM4=>tN ?_⟩))
  refine wp_cond_false (FF4.ev 0 rfl) ?_
  refine wp_skip ?_
  refine tN ?_
  refine wp_seq (rg_c FF4 MM4 [] 9 [9] [] (fun _ _ FF5 MM5=>tN ?_))
  refine wp_seq ?_
  cases i with
  | false=>
   refine wp_seq (rg_c FF5 MM5 [(3,l_ 2 (.bool false))] 10 [23] [] (⟨rfl,rfl,fun _ _ FF6 MM6=>tN ?_⟩))
   refine wp_cond_false (FF6.ev 0 rfl) ?_
   refine wp_skip ?_
   refine tN ?_
   refine wp_seq (rg_dc 7 FF6 MM6 [(1,b_ 1),(0,u_ 1 (.agg (cn .u8 K))),(0,b_ 0),(1,t_ (sB (sealN K N [] Y)))] [] 9 [10] [] (⟨rfl,((cZ _ _).trans hK.1),(callP_B [2,3] en_pKey rfl (fun w Hw=>by have h0:=pKey_any hk hK w Hw (dN rfl (distinct_at MM6.distinct (is:=[2,3]) rfl rfl));rw [show ownN K ks=K by rw [ownN,hg];exact hO rfl own hg]at h0;exact h0)),rfl,((cZ _ _).trans hN.1),(cP en_Seal (seal_any K N ⟨hK.1,hK.2⟩ ⟨hN.1,hN.2⟩ [] Y (lit_lt (by kernel_rfl)) hY (by decide) (by omega)) _),fun _ _ FF7 MM7=>tN ?_⟩))
   refine wp_seq (rg_dc 10 FF7 MM7 [(3,l_ 2 (.map (some m3))),(0,b_ 1),(0,b_ 0),(1,f_ (.agg ((cn .u8 K)++(cn .u8 N)++(#[sB (sealN K N [] Y)]:Array Value)))),(1,t_ (sB Y))] [(0,r_ undef [(4,NM (mput (K,N,sealN K N [] Y) Y pn))])] 11 [] [] (⟨rfl,rfl,rfl,((cZ _ _).trans hK.1),rfl,((cZ _ _).trans hN.1),(build_ok (t:=183) (ps:=#[(0,(.tmp 37)),(1,(.tmp 38)),(2,(.tmp 39))]) (by kernel_rfl) rfl (built_fits (pl:=[(0,32),(32,12),(44,1)]) (tot:=45) (n:=32) (by kernel_rfl) (by kernel_rfl) (ns:=[12,1]) ⟨rfl,(show(cn .u8 K).size=32 from((cZ _ _).trans hK.1)),rfl,(show(cn .u8 N).size=12 from((cZ _ _).trans hN.1)),rfl,rfl,rfl⟩ rfl)),(cP en_clone (clone_any Y hY (by omega)) _),(mapPut_ok (t:=138) (m:=(.tmp 36)) (y:=(.tmp 40)) (z:=(.tmp 42)) (b:=m3) (i:=4) (kf:=boxV) (vf:=noteV) (l:=pn) (x:=(K,N,sealN K N [] Y)) (v:=Y) (by kernel_rfl) rfl rfl rfl Tryz.underlying138 box_law (fun p hp=>(hp_.1 p hp).1) hp_.2 ⟨hK,hN,(sealN_lt _ _ _ hY),(by rw [sealN_len];omega)⟩ rfl),fun _ _ FF8 MM8=>tN ?_⟩))
   refine wp_seq (rg_c FF8 MM8 [] 11 [] [] (fun _ _ FF9 MM9=>tN ?_))
   refine wp_ret ?_
   repeat first | refine tR ?_ | refine iR ?_
   exact(ret_fr FF9 0 Tryz.results51 rfl (by rw [noteP_yes hg,box_real hg];exact⟨rfl,MM9.turnB [(m3,NM (mput (K,N,sealN K N [] Y) Y pn))] H (List.forall_mem_cons.2 ⟨(List.mem_of_getElem? (i:=4) rfl),(fun _ h=>(nomatch h))⟩) (List.forall_mem_cons.2 ⟨.inl (List.mem_of_getElem? (i:=2) rfl),(List.forall_mem_cons.2 ⟨.inl (List.mem_of_getElem? (i:=3) rfl),(List.forall_mem_cons.2 ⟨.inr ⟨_,(List.mem_of_getElem? (i:=0) rfl),rfl⟩,(fun _ h=>(nomatch h))⟩)⟩)⟩)⟩))
  | true=>
   refine wp_seq (rg_c FF5 MM5 [(3,l_ 2 (.bool true))] 10 [23] [] (⟨rfl,rfl,fun _ _ FF10 MM10=>tN ?_⟩))
   refine wp_cond_true (FF10.ev 0 rfl) ?_
   refine rg_c FF10 MM10 [(1,t_ (iN Y.length)),(0,t_ (sB (List.replicate Y.length 0)))] 9 [9] [] (⟨(vI (bs_size _)),(cP en_repeat (repeat0_any Y.length (by omega)) _),fun _ _ FF11 MM11=>?_⟩)
   refine tN ?_
   refine wp_seq (rg_dc 7 FF11 MM11 [(1,b_ 1),(0,u_ 1 (.agg (cn .u8 (ownN K ks)))),(0,b_ 0),(1,t_ (sB (sealN (ownN K ks) N [] (List.replicate Y.length 0))))] [] 9 [10] [] (⟨rfl,((cZ _ _).trans hK.1),(callP_B [2,3] en_pKey rfl (fun w Hw=>pKey_any hk hK w Hw (dN rfl (distinct_at MM11.distinct (is:=[2,3]) rfl rfl)))),rfl,((cZ _ _).trans hN.1),(cP en_Seal (seal_any (ownN K ks) N ⟨(own_ok hk hK).1,(own_ok hk hK).2⟩ ⟨hN.1,hN.2⟩ [] (List.replicate Y.length 0) (lit_lt (by kernel_rfl)) (rep0_lt (by decide)) (by decide) (by rw [List.length_replicate];omega)) _),fun _ _ FF12 MM12=>tN ?_⟩))
   refine wp_seq (rg_dc 10 FF12 MM12 [(3,l_ 2 (.map (some m3))),(0,b_ 1),(0,b_ 0),(1,f_ (.agg ((cn .u8 K)++(cn .u8 N)++(#[sB (sealN (ownN K ks) N [] (List.replicate Y.length 0))]:Array Value)))),(1,t_ (sB Y))] [(0,r_ undef [(4,NM (mput (K,N,sealN (ownN K ks) N [] (List.replicate Y.length 0)) Y pn))])] 11 [] [] (⟨rfl,rfl,rfl,((cZ _ _).trans hK.1),rfl,((cZ _ _).trans hN.1),(build_ok (t:=183) (ps:=#[(0,(.tmp 37)),(1,(.tmp 38)),(2,(.tmp 39))]) (by kernel_rfl) rfl (built_fits (pl:=[(0,32),(32,12),(44,1)]) (tot:=45) (n:=32) (by kernel_rfl) (by kernel_rfl) (ns:=[12,1]) ⟨rfl,(show(cn .u8 K).size=32 from((cZ _ _).trans hK.1)),rfl,(show(cn .u8 N).size=12 from((cZ _ _).trans hN.1)),rfl,rfl,rfl⟩ rfl)),(cP en_clone (clone_any Y hY (by omega)) _),(mapPut_ok (t:=138) (m:=(.tmp 36)) (y:=(.tmp 40)) (z:=(.tmp 42)) (b:=m3) (i:=4) (kf:=boxV) (vf:=noteV) (l:=pn) (x:=(K,N,sealN (ownN K ks) N [] (List.replicate Y.length 0))) (v:=Y) (by kernel_rfl) rfl rfl rfl Tryz.underlying138 box_law (fun p hp=>(hp_.1 p hp).1) hp_.2 ⟨hK,hN,(sealN_lt _ _ _ (rep0_lt (by decide))),(by rw [sealN_len,List.length_replicate];omega)⟩ rfl),fun _ _ FF13 MM13=>tN ?_⟩))
   refine wp_seq (rg_c FF13 MM13 [] 11 [] [] (fun _ _ FF14 MM14=>tN ?_))
   refine wp_ret ?_
   repeat first | refine tR ?_ | refine iR ?_
   exact(ret_fr FF14 0 Tryz.results51 rfl (by rw [noteP_yes hg,box_ideal hg];exact⟨rfl,MM14.turnB [(m3,NM (mput (K,N,sealN (ownN K ks) N [] (List.replicate Y.length 0)) Y pn))] H (List.forall_mem_cons.2 ⟨(List.mem_of_getElem? (i:=4) rfl),(fun _ h=>(nomatch h))⟩) (List.forall_mem_cons.2 ⟨.inl (List.mem_of_getElem? (i:=2) rfl),(List.forall_mem_cons.2 ⟨.inl (List.mem_of_getElem? (i:=3) rfl),(List.forall_mem_cons.2 ⟨.inr ⟨_,(List.mem_of_getElem? (i:=0) rfl),rfl⟩,(fun _ h=>(nomatch h))⟩)⟩)⟩)⟩))
def NewAll (base:Nat)(w:World)(K:Blks):Prop:=Has w K∧Distinct K∧∀x∈K,base≤x.1
theorem newAll {w0 w:World}{L:Blks}{R:List Row}(M:MemS (fun k=>k<w0.heap.size) w0 w L R){is:List Nat}{K:Blks}(hn:apartB is=true)(hK:atL L is=some K):NewAll w0.heap.size w K:=
 ⟨atL_has hK M.hasL,distinct_at M.distinct hn hK,fun x hx=>by
  obtain⟨i,_,hi⟩:=atL_mem hK x hx
  exact Nat.not_lt.1 (M.base i x hi)⟩
theorem pnew_any (i:Bool)(tp:Option Addr)(w0:World):Calls Tryz.prog 30 #[.bool i,.pointer tp] w0 fun e w'=>∃b m1 m2 m3:Nat,e=.returned (pT b)∧Below w0.heap.size w0 w'∧NewAll w0.heap.size w' [(b,BB i (.pointer tp) m1 m2 m3 0),(m1,KM []),(m2,KM []),(m3,NM [])]:=by
 refine eF Tryz.func30 rfl Tryz.ntmps30 (by simp) fun ac (FF:Fr 12 ac [(0,.bool i),(1,.pointer tp)])=>?_
 have MM:=MemS.start w0
 refine wp_seq (rg_c FF MM [] 5 [] [] (fun _ _ FF1 MM1=>tN ?_))
 refine wp_seq (wp_region_list ?_)
 refine rp_c 3 FF1 MM1 [(2,n_ (.map none) (KM []))] 8 [] [0,1] (⟨(makeMap_ok (t:=136) (by kernel_rfl)),fun m1=>fun _ _ FF2 MM2=>?_⟩)
 refine rp_c 1 FF2 MM2 [(0,n_ (.map none) (KM []))] 9 [] [] (⟨(makeMap_ok (t:=137) (by kernel_rfl)),fun m2=>fun _ _ FF3 MM3=>?_⟩)
 refine rp_c 1 FF3 MM3 [(0,n_ (.map none) (NM []))] 9 [9] [] (⟨(makeMap_ok (t:=138) (by kernel_rfl)),fun m3=>fun _ _ FF4 MM4=>?_⟩)
 refine rp_c 2 FF4 MM4 [(0,t_ (aG #[.bool i,.pointer tp,.map (some m1),.map (some m2),.map (some m3),iN 0]))] 5 [11] [] (⟨(by kernel_rfl),fun b=>fun _ _ FF5 MM5=>?_⟩)
 refine rp_c 1 FF5 MM5 [] 5 [] [] (fun _ _ FF6 MM6=>?_)
 refine wpl_nil (tN ?_)
 refine wp_ret ?_
 repeat first | refine tR ?_ | refine iR ?_
 exact(ret_fr FF6 0 Tryz.results30 rfl ⟨b,m1,m2,m3,rfl,MM6.below,newAll MM6 (is:=[0,3,2,1]) rfl rfl⟩)
theorem en_body:Enters Tryz.prog 86:=fun args w=>by simp [go_sem]
theorem en_text:Enters Tryz.prog 91:=fun args w=>by simp [go_sem]
theorem en_request:Enters Tryz.prog 82:=fun args w=>by simp [go_sem]
theorem en_parts:Enters Tryz.prog 69:=fun args w=>by simp [go_sem]
theorem body_any (X:List Nat)(hX:∀i,X.getD i 0<256)(w0:World) :
  Calls Tryz.prog 86 #[sB X] w0 fun e w'=>e=.returned (.tuple #[.string (bs (bodyR X).1),iN ((bodyR X).2)])∧Below w0.heap.size w0 w':=by
 refine eF Tryz.func86 rfl Tryz.ntmps86 (by simp) fun ac (FF:Fr 17 ac [(0,sB X)])=>?_
 have MM:=MemS.start w0
 refine wp_seq (rg_c FF MM [(0,t_ (sB []))] 4 [] [] (⟨(by kernel_rfl),fun _ _ FF1 MM1=>tN ?_⟩))
 refine wp_seq ?_
 refine wp_seq (rg_c FF1 MM1 [(1,t_ (iN X.length))] 4 [7] [] (⟨(vI (bs_size _)),fun _ _ FF2 MM2=>tN ?_⟩))
 by_cases hs7:X.length>19
 ·refine wp_cond_true ((FF2.ev 0 rfl).trans (dec_t hs7)) ?_
  refine wp_seq (rg_c FF2 MM2 [(0,t_ (sB []))] 4 [] [] (⟨(by kernel_rfl),fun _ _ FF3 MM3=>tN ?_⟩))
  refine wp_ret ?_
  repeat first | refine tR ?_ | refine iR ?_
  exact(ret_tup2 FF3 1 0 Tryz.results86 rfl rfl ⟨by rw [bodyR_no hs7],MM3.below⟩)
 ·refine wp_cond_false ((FF2.ev 0 rfl).trans (dec_f hs7)) ?_
  have h19:X.length≤19:=by omega
  refine wp_skip ?_
  refine tN ?_
  refine wp_seq (rg_c FF2 MM2 [(0,s_ 0 (.cells (cn .u8 (List.replicate 20 0)) 222))] 5 [] [] (⟨(by kernel_rfl),fun bl=>fun _ _ FF4 MM4=>tN ?_⟩))
  refine wp_seq (rg_c FF4 MM4 [(1,t_ (iN X.length)),(0,t_ (iB X.length)),(0,w_ 1),(0,s_ 0 (.cells (cn .u8 ((List.replicate 20 0).set 0 X.length)) 222))] 5 [] [] (⟨(vI (bs_size _)),(vI (Nat.mod_eq_of_lt (by omega))),by decide,rfl,(by rw [cZ,(List.length_replicate ..)];decide),(.inl rfl),(cn_set _ _ _ _),fun _ _ FF5 MM5=>tN ?_⟩))
  refine wp_seq (rg_c FF5 MM5 [(2,r_ (iN (min X.length 19)) [(0,.cells (cn .u8 (bodyN X)) 222)])] 5 [] [] (⟨by decide,by decide,by decide,(copyStr_ok (p:=.tmp 12) (q:=.tmp 13) (t:=77) (tq:=9) (e:=5) (T:=222) (off:=1) (len:=19) (X:=X) (cs:=cn .u8 ((List.replicate 20 0).set 0 X.length)) (i:=0) (by kernel_rfl) rfl rfl hX Tryz.underlying77 (by kernel_rfl) rfl (by rw [cZ,List.length_set,List.length_replicate];decide) (body_cells h19)),fun _ _ FF6 MM6=>tN ?_⟩))
  refine wp_seq (rg_c FF6 MM6 [(1,l_ 0 (sB (bodyN X)))] 5 [] [] (⟨by decide,by decide,by decide,rfl,(str_all (bodyN_len h19) (bodyN_lt hX h19)),fun _ _ FF7 MM7=>tN ?_⟩))
  refine wp_ret ?_
  repeat first | refine tR ?_ | refine iR ?_
  exact(ret_tup2 FF7 1 0 Tryz.results86 rfl rfl ⟨by rw [bodyR_ok h19],MM7.below⟩)
theorem text_any (B:List Nat)(hB:∀i,B.getD i 0<256)(w0:World) :
  Calls Tryz.prog 91 #[sB B] w0 fun e w'=>e=.returned (.tuple #[.string (bs (textR B).1),.bool (textR B).2])∧Below w0.heap.size w0 w':=by
 refine eF Tryz.func91 rfl Tryz.ntmps91 (by simp) fun ac (FF:Fr 32 ac [(0,sB B)])=>?_
 have MM:=MemS.start w0
 refine wp_seq (rg_c FF MM [(0,t_ (sB []))] 4 [] [] (⟨(by kernel_rfl),fun _ _ FF1 MM1=>tN ?_⟩))
 refine wp_seq ?_
 by_cases h20:B.length=20
 ·by_cases h0:B.getD 0 0≤19
  ·skip
   refine wp_seq (rg_c FF1 MM1 [(1,t_ (iN B.length)),(0,w_ 3),(2,t_ (iB (B.getD 0 0))),(0,w_ 1),(0,w_ 3)] 4 [15] [] (⟨(vI (bs_size _)),(fun h=>h h20),(by simp only [bs_size];omega),(byte_bs hB _),(by have:=hB 0;omega),by omega,fun _ _ FF2 MM2=>tN ?_⟩))
   refine wp_cond_false (FF2.ev 0 rfl) ?_
   refine wp_skip ?_
   refine tN ?_
   have htl:=textN_len h20 h0
   refine wp_seq (rg_c FF2 MM2 [(2,t_ (iB (B.getD 0 0))),(0,w_ 1),(1,t_ (sB (textN B))),(0,t_ (sB (textN B)))] 5 [] [] (⟨(by simp only [bs_size];omega),(byte_bs hB _),(by have:=hB 0;omega),(by have:=hB 0;omega),(by have:=hB 0;omega),(by simp only [bs_size];have:=hB 0;omega),(vS2 (bs_extract _ _ _)),(cP en_clone (clone_any (textN B) (textN_lt hB) (by omega)) _),fun _ _ FF3 MM3=>tN ?_⟩))
   refine wp_seq ?_
   refine wp_seq (rg_c FF3 MM3 [(1,t_ (.tuple #[sB (bodyN (textN B)),iN 0]))] 6 [] [] (⟨(cP en_body (fun w=>by have h0:=body_any (textN B) (textN_lt hB) w;rw [bodyR_ok (by omega)]at h0;exact h0) _),fun _ _ FF4 MM4=>tN ?_⟩))
   by_cases he:bodyN (textN B)=B
   ·skip
    refine wp_seq (rg_c FF4 MM4 [(2,w_ 3)] 5 [30] [] (⟨(fun h=>h (congrArg bs he)),fun _ _ FF5 MM5=>tN ?_⟩))
    refine wp_cond_false (FF5.ev 0 rfl) ?_
    refine wp_skip ?_
    refine tN ?_
    refine wp_seq (rg_c FF5 MM5 [] 5 [] [] (fun _ _ FF6 MM6=>tN ?_))
    refine wp_ret ?_
    repeat first | refine tR ?_ | refine iR ?_
    exact(ret_tup2 FF6 1 0 Tryz.results91 rfl rfl ⟨by rw [textR_ok h20 h0 he],MM6.below⟩)
   ·skip
    refine wp_seq (rg_c FF4 MM4 [(2,w_ 2)] 5 [30] [] (⟨(fun h=>he (bs_inj (bodyN_lt (textN_lt hB) (by omega)) hB h)),fun _ _ FF7 MM7=>tN ?_⟩))
    refine wp_cond_true (FF7.ev 0 rfl) ?_
    refine wp_seq (rg_c FF7 MM7 [(0,t_ (sB []))] 5 [] [] (⟨(by kernel_rfl),fun _ _ FF8 MM8=>tN ?_⟩))
    refine wp_ret ?_
    repeat first | refine tR ?_ | refine iR ?_
    exact(ret_tup2 FF8 1 0 Tryz.results91 rfl rfl ⟨by rw [textR_else he],MM8.below⟩)
  ·skip
   refine wp_seq (rg_c FF1 MM1 [(1,t_ (iN B.length)),(0,w_ 3),(2,t_ (iB (B.getD 0 0))),(0,w_ 1),(0,w_ 2)] 4 [15] [] (⟨(vI (bs_size _)),(fun h=>h h20),(by simp only [bs_size];omega),(byte_bs hB _),(by have:=hB 0;omega),by omega,fun _ _ FF9 MM9=>tN ?_⟩))
   refine wp_cond_true (FF9.ev 0 rfl) ?_
   refine wp_seq (rg_c FF9 MM9 [(0,t_ (sB []))] 4 [] [] (⟨(by kernel_rfl),fun _ _ FF10 MM10=>tN ?_⟩))
   refine wp_ret ?_
   repeat first | refine tR ?_ | refine iR ?_
   exact(ret_tup2 FF10 1 0 Tryz.results91 rfl rfl ⟨by rw [textR_big (by omega)],MM10.below⟩)
 ·skip
  refine wp_seq (rg_c FF1 MM1 [(1,t_ (iN B.length)),(0,w_ 2)] 4 [15] [] (⟨(vI (bs_size _)),h20,fun _ _ FF11 MM11=>tN ?_⟩))
  refine wp_cond_true (FF11.ev 0 rfl) ?_
  refine wp_seq (rg_c FF11 MM11 [(0,t_ (sB []))] 4 [] [] (⟨(by kernel_rfl),fun _ _ FF12 MM12=>tN ?_⟩))
  refine wp_ret ?_
  repeat first | refine tR ?_ | refine iR ?_
  exact(ret_tup2 FF12 1 0 Tryz.results91 rfl rfl ⟨by rw [textR_len h20],MM12.below⟩)
theorem request_any (D:List Nat)(hDl:D.length=16)(hD:∀i,D.getD i 0<256)(B:List Nat)(w0:World) :
  Calls Tryz.prog 82 #[.agg (cn .u8 D),sB B] w0 fun e w'=>e=.returned (.tuple #[.string (bs (requestR D B).1),iN ((requestR D B).2)])∧Below w0.heap.size w0 w':=by
 refine eF Tryz.func82 rfl Tryz.ntmps82 (by simp) fun ac (FF:Fr 13 ac [(0,.agg (cn .u8 D)),(1,sB B)])=>?_
 have MM:=MemS.start w0
 refine wp_seq (rg_c FF MM [(0,s_ 0 (.cells (cn .u8 D) 95)),(0,t_ (sB []))] 6 [] [0] (⟨(by kernel_rfl),fun bi=>⟨(by kernel_rfl),fun _ _ FF1 MM1=>tN ?_⟩⟩))
 refine wp_seq ?_
 refine wp_seq (rg_c FF1 MM1 [(1,t_ (iN B.length))] 6 [8] [] (⟨(vI (bs_size _)),fun _ _ FF2 MM2=>tN ?_⟩))
 by_cases hs8:B.length≠36
 ·refine wp_cond_true ((FF2.ev 0 rfl).trans (dec_t hs8)) ?_
  refine wp_seq (rg_c FF2 MM2 [(0,t_ (sB []))] 6 [] [] (⟨(by kernel_rfl),fun _ _ FF3 MM3=>tN ?_⟩))
  refine wp_ret ?_
  repeat first | refine tR ?_ | refine iR ?_
  exact(ret_tup2 FF3 1 0 Tryz.results82 rfl rfl ⟨by rw [requestR_no hs8],MM3.below⟩)
 ·refine wp_cond_false ((FF2.ev 0 rfl).trans (dec_f hs8)) ?_
  refine wp_skip ?_
  refine tN ?_
  refine wp_seq (rg_c FF2 MM2 [(1,l_ 0 (sB D)),(1,t_ (sB (D++B)))] 6 [] [2] (⟨by decide,by decide,by decide,rfl,(str_all hDl hD),(by simp only [bs_size];omega),(vS2 (bs_app _ _)),fun _ _ FF4 MM4=>tN ?_⟩))
  refine wp_ret ?_
  repeat first | refine tR ?_ | refine iR ?_
  exact(ret_tup2 FF4 1 0 Tryz.results82 rfl rfl ⟨by rw [requestR_ok (Decidable.of_not_not hs8)],MM4.below⟩)
theorem parts_any (X:List Nat)(hX:∀i,X.getD i 0<256)(w0:World) :
  Calls Tryz.prog 69 #[sB X] w0 fun e w'=>e=.returned (.tuple #[.agg (cn .u8 (partsR X).1),.string (bs (partsR X).2.1),.bool (partsR X).2.2])∧Below w0.heap.size w0 w':=by
 refine eF Tryz.func69 rfl Tryz.ntmps69 (by simp) fun ac (FF:Fr 19 ac [(0,sB X)])=>?_
 have MM:=MemS.start w0
 refine wp_seq (rg_c FF MM [(0,s_ 0 (.cells (cn .u8 (List.replicate 16 0)) 95)),(0,t_ (sB []))] 5 [] [] (⟨(by kernel_rfl),fun br=>⟨(by kernel_rfl),fun _ _ FF1 MM1=>tN ?_⟩⟩))
 refine wp_seq ?_
 refine wp_seq (rg_c FF1 MM1 [(1,t_ (iN X.length))] 5 [9] [] (⟨(vI (bs_size _)),fun _ _ FF2 MM2=>tN ?_⟩))
 by_cases hs9:X.length≠52
 ·refine wp_cond_true ((FF2.ev 0 rfl).trans (dec_t hs9)) ?_
  refine wp_seq (rg_c FF2 MM2 [(0,t_ (.agg (cn .u8 (List.replicate 16 0)))),(0,b_ 0),(0,t_ (sB []))] 5 [] [] (⟨(by kernel_rfl),rfl,((cZ _ _).trans (List.length_replicate ..)),((cZ _ _).trans (List.length_replicate ..)),(cn_one _ _),rfl,(by kernel_rfl),fun _ _ FF3 MM3=>tN ?_⟩))
  refine wp_ret ?_
  repeat first | refine tR ?_ | refine iR ?_
  exact(ret_ctt FF3 MM3 (k:=16) (i:=0) (j:=2) (m:=1) (m2:=0) Tryz.results69 rfl rfl rfl rfl Tryz.underlying95 rfl (by kernel_rfl) ((cZ _ _).trans (List.length_replicate ..)) ⟨by rw [partsR_no hs9],MM3.below⟩)
 ·refine wp_cond_false ((FF2.ev 0 rfl).trans (dec_f hs9)) ?_
  have h52:X.length=52:=Decidable.of_not_not hs9
  refine wp_skip ?_
  refine tN ?_
  refine wp_seq (rg_c FF2 MM2 [(0,s_ 0 (.cells (cn .u8 (List.replicate 16 0)) 95))] 6 [] [] (⟨(by kernel_rfl),fun bi=>fun _ _ FF4 MM4=>tN ?_⟩))
  refine wp_seq (rg_c FF4 MM4 [(2,r_ (iN 16) [(0,.cells (cn .u8 (X.take 16)) 95)])] 7 [] [] (⟨by decide,by decide,by decide,(by have h0:=copyStr_ok (P:=Tryz.prog) (l:=[(12,sB X),(11,.slice (some ⟨bi,0,none⟩) 16 16),(5,pT bi),(4,.bool false),(3,sB []),(2,pT br),(0,sB X)]) (L:=[(bi,.cells (cn .u8 (List.replicate 16 0)) 95),(br,.cells (cn .u8 (List.replicate 16 0)) 95)]) (o:=opAt Tryz.f69 4 2) (p:=.tmp 11) (q:=.tmp 12) (t:=77) (tq:=9) (e:=5) (T:=95) (off:=0) (len:=16) (X:=X) (cs:=cn .u8 (List.replicate 16 0)) (i:=0) (by kernel_rfl) rfl rfl hX Tryz.underlying77 (by kernel_rfl) rfl (by rw [cZ,List.length_replicate];decide) (parts_cells h52);rw [show min X.length 16=16 by omega]at h0;exact h0),fun _ _ FF5 MM5=>tN ?_⟩))
  refine wp_seq (rg_dc 5 FF5 MM5 [(0,b_ 0),(2,t_ (sB (X.drop 16))),(0,t_ (sB (X.drop 16)))] [(0,b_ 1)] 6 [] [] (⟨rfl,((cZ _ _).trans (by rw [List.length_take,h52];rfl)),(by simp only [bs_size];omega),(Nat.zero_le _),(vS2 (bs_from _ _)),(cP en_clone (clone_any (X.drop 16) (drop_lt hX) (by rw [List.length_drop];omega)) _),rfl,((cZ _ _).trans (List.length_replicate ..)),((cZ _ _).trans (by rw [List.length_take,h52];rfl)),(cn_one _ _),rfl,fun _ _ FF6 MM6=>tN ?_⟩))
  refine wp_ret ?_
  repeat first | refine tR ?_ | refine iR ?_
  exact(ret_ctt FF6 MM6 (k:=16) (i:=1) (j:=3) (m:=1) (m2:=0) Tryz.results69 rfl rfl rfl rfl Tryz.underlying95 rfl (by kernel_rfl) ((cZ _ _).trans (by rw [List.length_take,h52];rfl)) ⟨by rw [partsR_ok h52],MM6.below⟩)
theorem en_rright:Enters Tryz.prog 167:=fun args w=>by simp [go_sem]
theorem en_rconst:Enters Tryz.prog 168:=fun args w=>by simp [go_sem]
theorem en_rblock:Enters Tryz.prog 139:=fun args w=>by simp [go_sem]
theorem en_rsum:Enters Tryz.prog 111:=fun args w=>by simp [go_sem]
theorem ovr_get {L:List Nat}{s j i:Nat}(f:Nat→Nat)(h:s+j≤i)(hl:s+j≤L.length):(ovr L s f j).getD i 0=L.getD i 0:=by
 have h1:(L.take s++(List.range j).map f).length=s+j:=by simp;omega
 rw [ovr,getD_app_r _ _ _ (by omega),h1]
 simp only [List.getD_eq_getElem?_getD,List.getElem?_drop]
 rw [show s+j+(i-(s+j))=i by omega]
theorem ovr0_step {L:List Nat}{j:Nat}(f:Nat→Nat)(h:j<L.length){x:Nat}(hx:x=f j):(ovr L 0 f j).set j x=ovr L 0 f (j+1):=by
 have:=ovr_step (L:=L) (s:=0) f (by omega) hx
 rwa [Nat.zero_add]at this
def aftF (H X:List Nat)(i:Nat):Nat:=(H.getD i 0+(stK H X 64).getD i 0)%4294967296
theorem ovr_aft {H:List Nat}(h:H.length=8)(X:List Nat):ovr H 0 (aftF H X) 8=aftN H X:=by
 rw [ovr,List.drop_eq_nil_of_le (by omega)];rfl
theorem one_lt {x:Nat}(h:x<256)(i:Nat):[x].getD i 0<256:=by
 match i with
 | 0=>exact h
 | i+1=>simp
theorem cut64 (X:List Nat)(a:Nat):(X.take (a+64)).drop a=(X.drop a).take 64:=by rw [List.drop_take,Nat.add_sub_cancel_left]
theorem sTx_lt {T:List Nat}(h:∀i,T.getD i 0<256)(i:Nat):(sTx T).getD i 0<256:=by
 refine app_lt (app_lt (app_lt h (one_lt (by decide))) (rep0_lt (by decide))) (fun i=>?_) i
 have:=ovr_lt (L:=[]) (s:=0) (j:=8) nil_lt (beF_lt (8*T.length)) i
 simpa [ovr]using this
theorem rright_any (x n:Nat)(hx:x<4294967296)(hn:n<32)(w0:World) :
  Calls Tryz.prog 167 #[.int .u32 (x:Nat),.int .u32 (n:Nat)] w0 fun e w'=>e=.returned (.int .u32 (rr x n:Nat))∧Below w0.heap.size w0 w':=by
 refine eF Tryz.func167 rfl Tryz.ntmps167 (by simp) fun ac (FF:Fr 13 ac [(0,.int .u32 (x:Nat)),(1,.int .u32 (n:Nat))])=>?_
 have MM:=MemS.start w0
 refine wp_seq (rg_c FF MM [] 5 [] [] (fun _ _ FF1 MM1=>tN ?_))
 refine wp_seq (rg_c FF1 MM1 [(5,w_ 1),(1,t_ (.int .u32 (rr x n:Nat)))] 0 [4] [] (⟨(by show _≤32;have:=hx;have:=hn;omega),(by have:=hn;omega),(by have:=hn;omega),(div_lt32 hx _),(mod_lt32 _),rfl,fun _ _ FF2 MM2=>tN ?_⟩))
 refine wp_ret ?_
 repeat first | refine tR ?_ | refine iR ?_
 exact(ret_fr FF2 0 Tryz.results167 rfl ⟨rfl,MM2.below⟩)
theorem rconst_any (i:Nat)(hi:i<64)(w0:World) :
  Calls Tryz.prog 168 #[iN i] w0 fun e w'=>e=.returned (.int .u32 (kTab.getD i 0:Nat))∧Below w0.heap.size w0 w':=by
 refine eF Tryz.func168 rfl Tryz.ntmps168 (by simp) fun ac (FF:Fr 8 ac [(0,iN i)])=>?_
 have MM:=MemS.start w0
 refine wp_seq (rg_c FF MM [] 3 [] [] (fun _ _ FF1 MM1=>tN ?_))
 refine wp_seq (rg_c FF1 MM1 [(0,t_ (.agg (cn .u32 kTab))),(0,s_ 0 (.cells (cn .u32 (List.replicate 64 0)) 267)),(0,b_ 0)] 4 [] [] (⟨(Eq.trans (show _=some (cn .u32 ([1116352408,1899447441,3049323471,3921009573,961987163,1508970993,2453635748,2870763221,3624381080,310598401,607225278,1426881987,1925078388,2162078206,2614888103,3248222580,3835390401,4022224774,264347078,604807628,770255983,1249150122,1555081692,1996064986,2554220882,2821834349,2952996808,3210313671,3336571891,3584528711,113926993,338241895,666307205,773529912,1294757372,1396182291,1695183700,1986661051,2177026350,2456956037,2730485921,2820302411,3259730800,3345764771,3516065817,3600352804,4094571909,275423344,430227734,506948616,659060556,883997877,958139571,1322822218,1537002063,1747873779,1955562222,2024104815,2227730452,2361852424,2428436474,2756734187,3204031479,3329325298]))by kernel_rfl) (congrArg some (Value.agg.inj rfl))),(by kernel_rfl),fun b1=>⟨rfl,((cZ _ _).trans (List.length_replicate ..)),((cZ _ _).trans kTab_wds.len),(cn_one _ _),rfl,fun _ _ FF2 MM2=>tN ?_⟩⟩))
 refine wp_seq (rg_c FF2 MM2 [(1,w_ 1),(0,l_ 0 (.int .u32 (kTab.getD i 0:Nat)))] 4 [] [0] (⟨(by have:=hi;omega),rfl,(cn_get _ _ _ (by rw [kTab_wds.len];omega)),fun _ _ FF3 MM3=>tN ?_⟩))
 refine wp_ret ?_
 repeat first | refine tR ?_ | refine iR ?_
 exact(ret_fr FF3 0 Tryz.results168 rfl ⟨rfl,MM3.below⟩)
set_option maxHeartbeats 1000000 in
theorem rblock_any (H X:List Nat)(hH:Wds 8 H)(hX:Bytes 64 X)(w0:World) :
  Calls Tryz.prog 139 #[.agg (cn .u32 H),sB X] w0 fun e w'=>e=.returned (.agg (cn .u32 (aftN H X)))∧Below w0.heap.size w0 w':=by
 refine eF Tryz.func139 rfl Tryz.ntmps139 (by simp) fun ac (FF:Fr 189 ac [(0,.agg (cn .u32 H)),(1,sB X)])=>?_
 have MM:=MemS.start w0
 refine wp_seq (rg_c FF MM [(0,s_ 0 (.cells (cn .u32 H) 239)),(0,s_ 0 (.cells (cn .u32 (List.replicate 8 0)) 239))] 5 [] [0] (⟨(by kernel_rfl),fun bh=>⟨(by kernel_rfl),fun bo=>fun _ _ FF1 MM1=>tN ?_⟩⟩))
 refine wp_seq (rg_c FF1 MM1 [(0,t_ (.agg (cn .u32 (List.replicate 64 0)))),(0,s_ 0 (.cells (cn .u32 (List.replicate 64 0)) 267)),(0,b_ 0)] 6 [] [] (⟨(by kernel_rfl),(by kernel_rfl),fun bw=>⟨rfl,((cZ _ _).trans (List.length_replicate ..)),((cZ _ _).trans (List.length_replicate ..)),(cn_one _ _),rfl,fun _ _ FF2 MM2=>tN ?_⟩⟩))
 have MMr4:MemS _ _ _ [(bw,.cells (cn .u32 (genL 64 (wAt X) 0)) 267),_,_] _:=MM2.eqA 0 rfl (by rw [←genL_zero 64 (wAt X)] <;> rfl)
 refine wp_seq ?_
 refine wp_seq (rg_c FF2 MMr4 [] 7 [] [] (fun _ _ FF3 MM3=>tN ?_))
 refine wp_for2 (fun a' w'=>∃i:Nat,i≤16∧Fr 189 a' [(6,iN i),(5,pT bw),(4,pT bo),(2,pT bh),(1,sB X)]∧MemS (fun k=>k<w0.heap.size) w0 w' [(bw,.cells (cn .u32 (genL 64 (wAt X) i)) 267),(bo,.cells (cn .u32 (List.replicate 8 0)) 239),(bh,.cells (cn .u32 H) 239)] []) (fun a' _=>(16-cnt 6 a').toNat) ⟨0,by omega,FF3.pick [0,1,2,3,4],MM3⟩ ?_
 rintro ac4 wd4 ⟨i,hi,FF4,MM4⟩
 have hci:=cnt_of (FF4.get 0 rfl)
 refine rg_c FF4 MM4 [] 7 [19] [] (fun _ _ FF5 MM5=>?_)
 by_cases hlti:i<16
 ·skip
  refine tN (.inl ⟨(FF5.ev 0 rfl).trans (dec_t hlti),?_⟩)
  refine rg_dc 31 FF5 MM5 [(4,t_ (iB (X.getD (4*i) 0))),(0,w_ 1),(0,t_ (.int .u32 ((X.getD (4*i) 0)*16777216%4294967296:Nat))),(4,t_ (iB (X.getD ((4*i)+1) 0))),(0,w_ 1),(0,t_ (.int .u32 ((X.getD ((4*i)+1) 0)*65536%4294967296:Nat))),(5,t_ (iB (X.getD ((4*i)+2) 0))),(0,w_ 1),(0,t_ (.int .u32 ((X.getD ((4*i)+2) 0)*256%4294967296:Nat))),(5,t_ (iB (X.getD ((4*i)+3) 0))),(0,w_ 1),(0,t_ (.int .u32 (wd X (4*i):Nat))),(0,w_ 1)] [(0,s_ 0 (.cells (cn .u32 (genL 64 (wAt X) (i+1))) 267))] 7 [] [] (⟨by omega,(by simp only [bs_size];have:=hX.len;omega),(byte_bs hX.lt _),(by have:=hX.lt (4*i);omega),rfl,by omega,by omega,(by simp only [bs_size];have:=hX.len;omega),(byte_bs hX.lt _),(by have:=hX.lt ((4*i)+1);omega),rfl,(mod_lt32 _),(mod_lt32 _),by omega,by omega,(by simp only [bs_size];have:=hX.len;omega),(byte_bs hX.lt _),(by have:=hX.lt ((4*i)+2);omega),rfl,(or_lt32 (mod_lt32 _) (mod_lt32 _)),(mod_lt32 _),by omega,by omega,(by simp only [bs_size];have:=hX.len;omega),(byte_bs hX.lt _),(by have:=hX.lt ((4*i)+3);omega),(or_lt32 (or_lt32 (mod_lt32 _) (mod_lt32 _)) (mod_lt32 _)),(by have:=hX.lt ((4*i)+3);omega),rfl,by omega,rfl,(by rw [cZ,(genL_len _ _ _)];omega),(.inl rfl),((cn_set _ _ _ _).trans (congrArg _ (genL_step _ _ i (by omega) (wAt_lo X hlti).symm))),fun _ _ FF6 MM6=>?_⟩)
  refine inb_n (tN ?_)
  refine rg_c FF6 MM6 [] 7 [] [] (⟨by omega,fun _ _ FF7 MM7=>?_⟩)
  have hdi:=cnt_of (FF7.get 0 rfl)
  refine tN ⟨⟨i+1,by omega,FF7.pick [0,1,2,3,4],MM7⟩,?_⟩
  rw [hci,hdi];omega
 ·skip
  refine tN (.inr ⟨(FF5.ev 0 rfl).trans (dec_f hlti),?_⟩)
  obtain rfl:i=16:=by omega
  refine tN ?_
  refine wp_seq ?_
  refine wp_seq (rg_c FF5 MM5 [] 8 [] [] (fun _ _ FF8 MM8=>tN ?_))
  refine wp_for2 (fun a' w'=>∃i:Nat,(16≤i∧i≤64)∧Fr 189 a' [(7,iN i),(6,iN 16),(5,pT bw),(4,pT bo),(2,pT bh),(1,sB X)]∧MemS (fun k=>k<w0.heap.size) w0 w' [(bw,.cells (cn .u32 (genL 64 (wAt X) i)) 267),(bo,.cells (cn .u32 (List.replicate 8 0)) 239),(bh,.cells (cn .u32 H) 239)] []) (fun a' _=>(64-cnt 7 a').toNat) ⟨16,by omega,FF8.pick [0,1,2,3,4,5],MM8⟩ ?_
  rintro ac9 wd9 ⟨i,hi,FF9,MM9⟩
  have hci:=cnt_of (FF9.get 0 rfl)
  refine rg_c FF9 MM9 [] 8 [54] [] (fun _ _ FF10 MM10=>?_)
  by_cases hlti:i<64
  ·skip
   refine tN (.inl ⟨(FF10.ev 0 rfl).trans (dec_t hlti),?_⟩)
   refine wp_seq (rg_c FF10 MM10 [(2,w_ 1),(0,l_ 0 (.int .u32 (wAt X (i-15):Nat)))] 9 [] [] (⟨by omega,by omega,by omega,rfl,((cn_get _ _ _ (by rw [genL_len];omega)).trans (by rw [genL_get _ _ _ (by omega),if_pos (by omega)])),fun _ _ FF11 MM11=>tN ?_⟩))
   refine wp_seq (rg_c FF11 MM11 [(2,w_ 1),(0,l_ 0 (.int .u32 (wAt X (i-2):Nat)))] 9 [9] [] (⟨by omega,by omega,by omega,rfl,((cn_get _ _ _ (by rw [genL_len];omega)).trans (by rw [genL_get _ _ _ (by omega),if_pos (by omega)])),fun _ _ FF12 MM12=>tN ?_⟩))
   refine rg_dc 29 FF12 MM12 [(3,w_ 1),(0,l_ 0 (.int .u32 (wAt X (i-16):Nat))),(1,t_ (.int .u32 (rr (wAt X (i-15)) 7:Nat))),(1,t_ (.int .u32 (rr (wAt X (i-15)) 18:Nat))),(2,t_ (.int .u32 ((wAt X (i-15))/8:Nat))),(0,t_ (.int .u32 (ssh (wAt X (i-15)) 7 18 3:Nat))),(3,w_ 1),(0,l_ 0 (.int .u32 (wAt X (i-7):Nat))),(2,t_ (.int .u32 (rr (wAt X (i-2)) 17:Nat))),(1,t_ (.int .u32 (rr (wAt X (i-2)) 19:Nat))),(2,t_ (.int .u32 ((wAt X (i-2))/1024:Nat))),(0,t_ (.int .u32 (ssh (wAt X (i-2)) 17 19 10:Nat))),(0,t_ (.int .u32 (wAt X i:Nat))),(0,w_ 1)] [(0,s_ 0 (.cells (cn .u32 (genL 64 (wAt X) (i+1))) 267))] 9 [9] [] (⟨by omega,by omega,by omega,rfl,((cn_get _ _ _ (by rw [genL_len];omega)).trans (by rw [genL_get _ _ _ (by omega),if_pos (by omega)])),(cP en_rright (rright_any (wAt X (i-15)) 7 (wAt_lt hX.lt (i-15)) (by decide)) _),(cP en_rright (rright_any (wAt X (i-15)) 18 (wAt_lt hX.lt (i-15)) (by decide)) _),(by have:=rr_lt (wAt_lt hX.lt (i-15)) 7;omega),(by have:=rr_lt (wAt_lt hX.lt (i-15)) 18;omega),by decide,rfl,(xor_lt32 (rr_lt (wAt_lt hX.lt (i-15)) _) (rr_lt (wAt_lt hX.lt (i-15)) _)),(div_lt32 (wAt_lt hX.lt (i-15)) _),rfl,by omega,by omega,by omega,rfl,((cn_get _ _ _ (by rw [genL_len];omega)).trans (by rw [genL_get _ _ _ (by omega),if_pos (by omega)])),(cP en_rright (rright_any (wAt X (i-2)) 17 (wAt_lt hX.lt (i-2)) (by decide)) _),(cP en_rright (rright_any (wAt X (i-2)) 19 (wAt_lt hX.lt (i-2)) (by decide)) _),(by have:=rr_lt (wAt_lt hX.lt (i-2)) 17;omega),(by have:=rr_lt (wAt_lt hX.lt (i-2)) 19;omega),by decide,rfl,(xor_lt32 (rr_lt (wAt_lt hX.lt (i-2)) _) (rr_lt (wAt_lt hX.lt (i-2)) _)),(div_lt32 (wAt_lt hX.lt (i-2)) _),rfl,(vI (wAt_hi X (by omega)).symm),by omega,rfl,(by rw [cZ,(genL_len _ _ _)];omega),(.inl rfl),((cn_set _ _ _ _).trans (congrArg _ (genL_step _ _ i (by omega) rfl))),fun _ _ FF13 MM13=>?_⟩)
   refine inb_n (tN ?_)
   refine rg_c FF13 MM13 [] 9 [9] [] (⟨by omega,fun _ _ FF14 MM14=>?_⟩)
   have hdi:=cnt_of (FF14.get 0 rfl)
   refine tN ⟨⟨i+1,by omega,FF14.pick [0,3,4,5,6,7],MM14⟩,?_⟩
   rw [hci,hdi];omega
  ·skip
   refine tN (.inr ⟨(FF10.ev 0 rfl).trans (dec_f hlti),?_⟩)
   obtain rfl:i=64:=by omega
   refine tN ?_
   refine wp_seq (rg_c FF10 MM10 [(0,b_ 2),(0,s_ 0 (.cells (cn .u32 (List.replicate 8 0)) 239)),(0,b_ 0)] 11 [] [] (⟨rfl,((cZ _ _).trans hH.len),(by kernel_rfl),fun bv=>⟨rfl,((cZ _ _).trans (List.length_replicate ..)),((cZ _ _).trans hH.len),(cn_one _ _),rfl,fun _ _ FF15 MM15=>tN ?_⟩⟩))
   have MMv:MemS _ _ _ [(bv,.cells (cn .u32 (stK H X 0)) 239),_,_,_] _:=MM15
   refine wp_seq ?_
   refine wp_seq (rg_c FF15 MMv [] 12 [] [] (fun _ _ FF16 MM16=>tN ?_))
   refine wp_for2 (fun a' w'=>∃n:Nat,n≤64∧Fr 189 a' [(11,iN n),(10,pT bv),(7,iN 64),(6,iN 16),(5,pT bw),(4,pT bo),(2,pT bh),(1,sB X)]∧MemS (fun k=>k<w0.heap.size) w0 w' [(bv,.cells (cn .u32 (stK H X n)) 239),(bw,.cells (cn .u32 (genL 64 (wAt X) 64)) 267),(bo,.cells (cn .u32 (List.replicate 8 0)) 239),(bh,.cells (cn .u32 H) 239)] []) (fun a' _=>(64-cnt 11 a').toNat) ⟨0,by omega,FF16.pick [0,1,2,3,4,5,6,7],MM16⟩ ?_
   rintro ac17 wd17 ⟨n,hn,FF17,MM17⟩
   have hcn:=cnt_of (FF17.get 0 rfl)
   refine rg_c FF17 MM17 [] 12 [96] [] (fun _ _ FF18 MM18=>?_)
   by_cases hltn:n<64
   ·skip
    refine tN (.inl ⟨(FF18.ev 0 rfl).trans (dec_t hltn),?_⟩)
    refine wp_seq (rg_c FF18 MM18 [(0,w_ 1),(0,l_ 0 (.int .u32 ((stK H X n).getD 4 0:Nat)))] 13 [] [] (⟨by decide,rfl,(cn_get _ _ _ (by rw [(stK_wds hH X n).len];decide)),fun _ _ FF19 MM19=>tN ?_⟩))
    refine wp_seq (rg_c FF19 MM19 [(0,w_ 1),(0,l_ 0 (.int .u32 ((stK H X n).getD 0 0:Nat)))] 14 [] [] (⟨by decide,rfl,(cn_get _ _ _ (by rw [(stK_wds hH X n).len];decide)),fun _ _ FF20 MM20=>tN ?_⟩))
    refine wp_seq (rg_dc 30 FF20 MM20 [(0,w_ 1),(0,l_ 0 (.int .u32 ((stK H X n).getD 7 0:Nat))),(1,t_ (.int .u32 (rr ((stK H X n).getD 4 0) 6:Nat))),(1,t_ (.int .u32 (rr ((stK H X n).getD 4 0) 11:Nat))),(2,t_ (.int .u32 (rr ((stK H X n).getD 4 0) 25:Nat))),(0,t_ (.int .u32 (sg ((stK H X n).getD 4 0) 6 11 25:Nat))),(2,w_ 1),(0,l_ 0 (.int .u32 ((stK H X n).getD 5 0:Nat))),(3,w_ 1),(0,l_ 0 (.int .u32 ((stK H X n).getD 6 0:Nat))),(1,t_ (.int .u32 (cho ((stK H X n).getD 4 0) ((stK H X n).getD 5 0) ((stK H X n).getD 6 0):Nat))),(2,t_ (.int .u32 (kTab.getD n 0:Nat))),(2,w_ 1),(0,l_ 1 (.int .u32 (wAt X n:Nat))),(0,t_ (.int .u32 (tt (stK H X n) (kTab.getD n 0) (wAt X n):Nat)))] [] 15 [] [] (⟨by decide,rfl,(cn_get _ _ _ (by rw [(stK_wds hH X n).len];decide)),(cP en_rright (rright_any ((stK H X n).getD 4 0) 6 ((stK_wds hH X n).lt 4) (by decide)) _),(cP en_rright (rright_any ((stK H X n).getD 4 0) 11 ((stK_wds hH X n).lt 4) (by decide)) _),(by have:=rr_lt ((stK_wds hH X n).lt 4) 6;omega),(by have:=rr_lt ((stK_wds hH X n).lt 4) 11;omega),(cP en_rright (rright_any ((stK H X n).getD 4 0) 25 ((stK_wds hH X n).lt 4) (by decide)) _),(xor_lt32 (rr_lt ((stK_wds hH X n).lt 4) _) (rr_lt ((stK_wds hH X n).lt 4) _)),(by have:=rr_lt ((stK_wds hH X n).lt 4) 25;omega),rfl,by decide,rfl,(cn_get _ _ _ (by rw [(stK_wds hH X n).len];decide)),(by have:=(stK_wds hH X n).lt 4;omega),(by have:=(stK_wds hH X n).lt 5;omega),(by have:=(stK_wds hH X n).lt 4;omega),by decide,by decide,rfl,(cn_get _ _ _ (by rw [(stK_wds hH X n).len];decide)),(xor_lt32 ((stK_wds hH X n).lt 4) (by decide)),(by have:=(stK_wds hH X n).lt 6;omega),(and_lt32 _ ((stK_wds hH X n).lt 4)),(and_lt32 _ (xor_lt32 ((stK_wds hH X n).lt 4) (by decide))),(vI (cho_ref _ _ ((stK_wds hH X n).lt 4))),(cP en_rconst (rconst_any n (by omega)) _),by omega,rfl,((cn_get _ _ _ (by rw [genL_len];omega)).trans (by rw [genL_get _ _ _ (by omega),if_pos (by omega)])),rfl,fun _ _ FF21 MM21=>tN ?_⟩))
    refine wp_seq (rg_dc 25 FF21 MM21 [(1,t_ (.int .u32 (rr ((stK H X n).getD 0 0) 2:Nat))),(1,t_ (.int .u32 (rr ((stK H X n).getD 0 0) 13:Nat))),(2,t_ (.int .u32 (rr ((stK H X n).getD 0 0) 22:Nat))),(0,t_ (.int .u32 (sg ((stK H X n).getD 0 0) 2 13 22:Nat))),(1,w_ 1),(0,l_ 0 (.int .u32 ((stK H X n).getD 1 0:Nat))),(2,w_ 1),(0,l_ 0 (.int .u32 ((stK H X n).getD 2 0:Nat))),(2,w_ 1),(0,l_ 0 (.int .u32 ((stK H X n).getD 1 0:Nat))),(0,w_ 1),(0,l_ 0 (.int .u32 ((stK H X n).getD 2 0:Nat))),(1,t_ (.int .u32 (maj ((stK H X n).getD 0 0) ((stK H X n).getD 1 0) ((stK H X n).getD 2 0):Nat))),(0,t_ (.int .u32 (uu (stK H X n):Nat)))] [] 16 [] [] (⟨(cP en_rright (rright_any ((stK H X n).getD 0 0) 2 ((stK_wds hH X n).lt 0) (by decide)) _),(cP en_rright (rright_any ((stK H X n).getD 0 0) 13 ((stK_wds hH X n).lt 0) (by decide)) _),(by have:=rr_lt ((stK_wds hH X n).lt 0) 2;omega),(by have:=rr_lt ((stK_wds hH X n).lt 0) 13;omega),(cP en_rright (rright_any ((stK H X n).getD 0 0) 22 ((stK_wds hH X n).lt 0) (by decide)) _),(xor_lt32 (rr_lt ((stK_wds hH X n).lt 0) _) (rr_lt ((stK_wds hH X n).lt 0) _)),(by have:=rr_lt ((stK_wds hH X n).lt 0) 22;omega),rfl,by decide,rfl,(cn_get _ _ _ (by rw [(stK_wds hH X n).len];decide)),(by have:=(stK_wds hH X n).lt 0;omega),(by have:=(stK_wds hH X n).lt 1;omega),by decide,rfl,(cn_get _ _ _ (by rw [(stK_wds hH X n).len];decide)),(by have:=(stK_wds hH X n).lt 0;omega),(by have:=(stK_wds hH X n).lt 2;omega),(and_lt32 _ ((stK_wds hH X n).lt 0)),(and_lt32 _ ((stK_wds hH X n).lt 0)),by decide,rfl,(cn_get _ _ _ (by rw [(stK_wds hH X n).len];decide)),by decide,rfl,(cn_get _ _ _ (by rw [(stK_wds hH X n).len];decide)),(by have:=(stK_wds hH X n).lt 1;omega),(by have:=(stK_wds hH X n).lt 2;omega),(xor_lt32 (and_lt32 _ ((stK_wds hH X n).lt 0)) (and_lt32 _ ((stK_wds hH X n).lt 0))),(and_lt32 _ ((stK_wds hH X n).lt 1)),(vI (maj_ref _ _ _)),rfl,fun _ _ FF22 MM22=>tN ?_⟩))
    refine rg_c FF22 MM22 [(3,w_ 1),(0,l_ 0 (.int .u32 ((stK H X n).getD 0 0:Nat))),(0,w_ 1),(0,l_ 0 (.int .u32 ((stK H X n).getD 1 0:Nat))),(0,w_ 1),(0,l_ 0 (.int .u32 ((stK H X n).getD 2 0:Nat))),(0,w_ 1),(0,l_ 0 (.int .u32 ((stK H X n).getD 3 0:Nat))),(2,w_ 1),(0,l_ 0 (.int .u32 ((stK H X n).getD 4 0:Nat))),(0,w_ 1),(0,l_ 0 (.int .u32 ((stK H X n).getD 5 0:Nat))),(0,w_ 1),(0,l_ 0 (.int .u32 ((stK H X n).getD 6 0:Nat))),(0,t_ (.agg (cn .u32 (stK H X (n+1))))),(0,b_ 0)] 16 [] [] (⟨by decide,rfl,(cn_get _ _ _ (by rw [(stK_wds hH X n).len];decide)),by decide,rfl,(cn_get _ _ _ (by rw [(stK_wds hH X n).len];decide)),by decide,rfl,(cn_get _ _ _ (by rw [(stK_wds hH X n).len];decide)),by decide,rfl,(cn_get _ _ _ (by rw [(stK_wds hH X n).len];decide)),by decide,rfl,(cn_get _ _ _ (by rw [(stK_wds hH X n).len];decide)),by decide,rfl,(cn_get _ _ _ (by rw [(stK_wds hH X n).len];decide)),by decide,rfl,(cn_get _ _ _ (by rw [(stK_wds hH X n).len];decide)),(Eq.trans (show _=some (cn .u32 ([((tt (stK H X n) (kTab.getD n 0) (wAt X n))+(uu (stK H X n)))%4294967296,(stK H X n).getD 0 0,(stK H X n).getD 1 0,(stK H X n).getD 2 0,(((stK H X n).getD 3 0)+(tt (stK H X n) (kTab.getD n 0) (wAt X n)))%4294967296,(stK H X n).getD 4 0,(stK H X n).getD 5 0,(stK H X n).getD 6 0]))by kernel_rfl) (congrArg some (Value.agg.inj rfl))),rfl,((cZ _ _).trans (stK_wds hH X n).len),((cZ _ _).trans (stK_wds hH X (n+1)).len),(cn_one _ _),rfl,fun _ _ FF23 MM23=>?_⟩)
    refine inb_n (tN ?_)
    refine rg_c FF23 MM23 [] 16 [] [] (⟨by omega,fun _ _ FF24 MM24=>?_⟩)
    have hdn:=cnt_of (FF24.get 0 rfl)
    refine tN ⟨⟨n+1,by omega,FF24.pick [0,5,6,7,8,9,10,11],MM24⟩,?_⟩
    rw [hcn,hdn];omega
   ·skip
    refine tN (.inr ⟨(FF18.ev 0 rfl).trans (dec_f hltn),?_⟩)
    obtain rfl:n=64:=by omega
    refine tN ?_
    refine wp_seq ?_
    refine wp_seq (rg_c FF18 MM18 [] 17 [] [] (fun _ _ FF25 MM25=>tN ?_))
    have MMr72:MemS _ _ _ [_,_,_,(bh,.cells (cn .u32 (ovr H 0 (aftF H X) 0)) 239)] _:=MM25.eqA 3 rfl (by rw [ovr_zero] <;> rfl)
    refine wp_for2 (fun a' w'=>∃i:Nat,i≤8∧Fr 189 a' [(16,iN i),(11,iN 64),(10,pT bv),(7,iN 64),(6,iN 16),(5,pT bw),(4,pT bo),(2,pT bh),(1,sB X)]∧MemS (fun k=>k<w0.heap.size) w0 w' [(bv,.cells (cn .u32 (stK H X 64)) 239),(bw,.cells (cn .u32 (genL 64 (wAt X) 64)) 267),(bo,.cells (cn .u32 (List.replicate 8 0)) 239),(bh,.cells (cn .u32 (ovr H 0 (aftF H X) i)) 239)] []) (fun a' _=>(8-cnt 16 a').toNat) ⟨0,by omega,FF25.pick [0,1,2,3,4,5,6,7,8],MMr72⟩ ?_
    rintro ac26 wd26 ⟨i,hi,FF26,MM26⟩
    have hci:=cnt_of (FF26.get 0 rfl)
    refine rg_c FF26 MM26 [] 17 [177] [] (fun _ _ FF27 MM27=>?_)
    by_cases hlti:i<8
    ·skip
     refine tN (.inl ⟨(FF27.ev 0 rfl).trans (dec_t hlti),?_⟩)
     refine rg_dc 8 FF27 MM27 [(1,w_ 1),(0,l_ 3 (.int .u32 (H.getD i 0:Nat))),(1,w_ 1),(0,l_ 0 (.int .u32 ((stK H X 64).getD i 0:Nat))),(1,w_ 1)] [(0,s_ 3 (.cells (cn .u32 (ovr H 0 (aftF H X) (i+1))) 239))] 17 [] [] (⟨by omega,rfl,((cn_get _ _ _ (by rw [ovr_len _ hH.len (by omega)];omega)).trans (by rw [ovr_get _ (by omega) (by rw [hH.len];omega)])),by omega,rfl,(cn_get _ _ _ (by rw [(stK_wds hH X 64).len];omega)),by omega,rfl,(by rw [cZ,(ovr_len _ hH.len (by omega))];omega),(.inl rfl),((cn_set _ _ _ _).trans (congrArg _ (ovr0_step _ (by rw [hH.len];omega) rfl))),fun _ _ FF28 MM28=>?_⟩)
     refine inb_n (tN ?_)
     refine rg_c FF28 MM28 [] 17 [] [] (⟨by omega,fun _ _ FF29 MM29=>?_⟩)
     have hdi:=cnt_of (FF29.get 0 rfl)
     refine tN ⟨⟨i+1,by omega,FF29.pick [0,1,2,3,4,5,6,7,8],MM29⟩,?_⟩
     rw [hci,hdi];omega
    ·skip
     refine tN (.inr ⟨(FF27.ev 0 rfl).trans (dec_f hlti),?_⟩)
     obtain rfl:i=8:=by omega
     have MMa:MemS _ _ _ [_,_,_,(bh,.cells (cn .u32 (aftN H X)) 239)] _:=MM27.eqA 3 rfl (by rw [←ovr_aft hH.len X] <;> rfl)
     refine tN ?_
     refine wp_seq (rg_c FF27 MMa [(0,b_ 3),(0,b_ 2)] 17 [] [] (⟨rfl,((cZ _ _).trans (aftN_wds H X).len),rfl,((cZ _ _).trans (List.length_replicate ..)),((cZ _ _).trans (aftN_wds H X).len),(cn_one _ _),rfl,fun _ _ FF30 MM30=>tN ?_⟩))
     refine wp_ret ?_
     repeat first | refine tR ?_ | refine iR ?_
     exact(retc FF30 MM30 (k:=8) (i:=2) (j:=6) Tryz.results139 rfl rfl Tryz.underlying239 rfl (by kernel_rfl) ((cZ _ _).trans (aftN_wds H X).len) ⟨rfl,MM30.below⟩)
theorem zlen (T:List Nat)(k:Nat):(T++[128]++List.replicate k 0).length=T.length+1+k:=by simp;omega
set_option maxHeartbeats 1000000 in
theorem rsum_any (T:List Nat)(hT:∀i,T.getD i 0<256)(hl:T.length<2305843009213693952)(w0:World) :
  Calls Tryz.prog 111 #[sB T] w0 fun e w'=>e=.returned (.agg (cn .u8 (shaN T)))∧Below w0.heap.size w0 w':=by
 refine eF Tryz.func111 rfl Tryz.ntmps111 (by simp) fun ac (FF:Fr 66 ac [(0,sB T)])=>?_
 have MM:=MemS.start w0
 refine wp_seq (rg_c FF MM [(0,s_ 0 (.cells (cn .u8 (List.replicate 32 0)) 51))] 3 [] [] (⟨(by kernel_rfl),fun bo=>fun _ _ FF1 MM1=>tN ?_⟩))
 refine wp_seq (rg_c FF1 MM1 [(1,t_ (iN T.length)),(0,w_ 1),(0,u_ 1 (iW (8*T.length)))] 4 [] [] (⟨(vI (bs_size _)),by omega,by omega,(vI (Nat.mul_comm _ _)),fun _ _ FF2 MM2=>tN ?_⟩))
 refine wp_seq (rg_c FF2 MM2 [(1,t_ (sB (T++[128])))] 4 [] [] (⟨(show(bs T).size+(bs [128]).size≤9223372036854775807 from(by simp only [bs_size,List.length_cons,List.length_nil];omega)),(Eq.trans (show _=Value.string (bs T++bs [128])by kernel_rfl) (vS2 (bs_app _ _))),fun ac3 _ FF3 MM3=>tN ?_⟩))
 have FFx:Fr 66 ac3 [(0,sB (T++[128]++List.replicate 0 0)),(3,iW (8*T.length)),(2,pT bo)]:=by simpa using FF3
 refine wp_seq ?_
 refine wp_for2w (fun a' w'=>∃k:Nat,k≤sZ T∧Fr 66 a' [(0,sB (T++[128]++List.replicate k 0)),(3,iW (8*T.length)),(2,pT bo)]∧MemS (fun k=>k<w0.heap.size) w0 w' [(bo,.cells (cn .u8 (List.replicate 32 0)) 51)] []) (fun a' _=>T.length+66-strLen 0 a') ⟨0,Nat.zero_le _,FFx.pick [0,1,2],MM3⟩ ?_
 rintro ac4 wd4 ⟨k,hk,FF4,MM4⟩
 have hc:=strLen_of (FF4.get 0 rfl)
 have hk64:k<64:=by unfold sZ at hk;omega
 refine rg_c FF4 MM4 [(1,t_ (iN (T.length+1+k)))] 4 [18] [] (⟨(vI ((bs_size _).trans (zlen _ _))),by decide,fun _ _ FF5 MM5=>?_⟩)
 by_cases hlt:((T.length+1+k)%64)≠56
 ·skip
  refine tN (.inl ⟨(FF5.ev 0 rfl).trans (dec_t hlt),?_⟩)
  refine rg_c FF5 MM5 [(1,t_ (sB (T++[128]++List.replicate (k+1) 0)))] 4 [] [] (⟨(show(bs (T++[128]++List.replicate k 0)).size+(bs [0]).size≤9223372036854775807 from(by simp only [bs_size,zlen,List.length_cons,List.length_nil];omega)),(Eq.trans (show _=Value.string (bs (T++[128]++List.replicate k 0)++bs [0])by kernel_rfl) (vS2 ((bs_app _ _).trans (congrArg bs (by rw [List.append_assoc (T++[128]),←List.replicate_succ']))))),fun _ _ FF6 MM6=>?_⟩)
  refine inb_n ?_
  have hd:=strLen_of (FF6.get 0 rfl)
  refine tN ⟨⟨k+1,by unfold sZ at *;omega,FF6.pick [0,1,2],MM6⟩,?_⟩
  rw [hc,hd,bs_size,bs_size,zlen,zlen];unfold sZ at *;omega
 ·skip
  refine tN (.inr ⟨(FF5.ev 0 rfl).trans (dec_f hlt),?_⟩)
  obtain rfl:k=sZ T:=by unfold sZ at *;omega
  refine tN ?_
  refine wp_seq ?_
  refine wp_seq (rg_c FF5 MM5 [(0,t_ (.int .i64 (7-((0:Nat):Int):Int)))] 5 [] [] (⟨rfl,fun ac7 _ FF7 MM7=>tN ?_⟩))
  have FFq:Fr 66 ac7 [(4,.int .i64 (7-((0:Nat):Int):Int)),(0,sB (T++[128]++List.replicate (sZ T) 0++(List.range 0).map (beF (8*T.length)))),(3,iW (8*T.length)),(2,pT bo)]:=by simpa using FF7
  refine wp_for2 (fun a' w'=>∃j:Nat,j≤8∧Fr 66 a' [(4,.int .i64 (7-((j:Nat):Int):Int)),(0,sB (T++[128]++List.replicate (sZ T) 0++(List.range j).map (beF (8*T.length)))),(3,iW (8*T.length)),(2,pT bo)]∧MemS (fun k=>k<w0.heap.size) w0 w' [(bo,.cells (cn .u8 (List.replicate 32 0)) 51)] []) (fun a' _=>(cnt 4 a'+1).toNat) ⟨0,by omega,FFq.pick [0,1,2,3],MM7⟩ ?_
  rintro ac8 wd8 ⟨j,hj,FF8,MM8⟩
  have hc:=cnt_of (FF8.get 0 rfl)
  refine rg_c FF8 MM8 [(1,w_ 4)] 5 [22] [] (fun _ _ FF9 MM9=>?_)
  by_cases hlt:(7-((j:Nat):Int))≥((0:Nat):Int)
  ·skip
   refine tN (.inl ⟨(FF9.ev 0 rfl).trans (dec_t hlt),?_⟩)
   refine rg_c FF9 MM9 [(2,t_ (iN (7-j))),(2,t_ (iB (beF (8*T.length) j))),(0,s_ 0 (.cells (cn .u8 ([beF (8*T.length) j])) 5)),(0,l_ 0 (sB ([beF (8*T.length) j]))),(0,t_ (sB (T++[128]++List.replicate (sZ T) 0++(List.range (j+1)).map (beF (8*T.length)))))] 5 [] [] (⟨(vZ (by omega)),by omega,(by show _≤64;omega),rfl,(by kernel_rfl),fun bq=>⟨rfl,(str_all rfl (one_lt (beF_lt _ _))),(by simp only [bs_size,List.length_append,List.length_map,List.length_range,List.length_cons,List.length_nil,List.length_replicate];unfold sZ;omega),(vS2 ((bs_app _ _).trans (congrArg bs (by rw [List.range_succ,List.map_append,←List.append_assoc];rfl)))),fun _ _ FF10 MM10=>?_⟩⟩)
   refine inb_n (tN ?_)
   refine rg_c FF10 MM10 [(1,u_ 4 (.int .i64 (7-((j+1:Nat):Int):Int)))] 5 [] [] (⟨by omega,by omega,(vZ (by omega)),fun _ _ FF11 MM11=>?_⟩)
   have hd:=cnt_of (FF11.get 0 rfl)
   refine tN ⟨⟨j+1,by omega,FF11.pick [0,1,2,3],MM11.sub [1] rfl⟩,?_⟩
   rw [hc,hd];omega
  ·skip
   refine tN (.inr ⟨(FF9.ev 0 rfl).trans (dec_f hlt),?_⟩)
   obtain rfl:j=8:=by omega
   have FFt:Fr _ _ [_,_,_,_,_]:=FF9
   have hlT:=sTx_len T
   refine tN ?_
   refine wp_seq (rg_c FFt MM9 [(0,t_ (.agg (cn .u32 (sHs (sTx T) 0)))),(0,s_ 0 (.cells (cn .u32 (List.replicate 8 0)) 239)),(0,b_ 0)] 6 [] [] (⟨(Eq.trans (show _=some (cn .u32 ([1779033703,3144134277,1013904242,2773480762,1359893119,2600822924,528734635,1541459225]))by kernel_rfl) (congrArg some (Value.agg.inj rfl))),(by kernel_rfl),fun bh=>⟨rfl,((cZ _ _).trans (List.length_replicate ..)),((cZ _ _).trans (sHs_wds (sTx T) 0).len),(cn_one _ _),rfl,fun _ _ FF12 MM12=>tN ?_⟩⟩))
   refine wp_seq ?_
   refine wp_seq (rg_c FF12 MM12 [(0,t_ (iN (64*0)))] 7 [] [] (⟨rfl,fun _ _ FF13 MM13=>tN ?_⟩))
   refine wp_for2 (fun a' w'=>∃k:Nat,64*k≤(sTx T).length∧Fr 66 a' [(6,iN (64*k)),(5,pT bh),(4,.int .i64 (7-((8:Nat):Int):Int)),(0,sB (sTx T)),(3,iW (8*T.length)),(2,pT bo)]∧MemS (fun k=>k<w0.heap.size) w0 w' [(bh,.cells (cn .u32 (sHs (sTx T) k)) 239),(bo,.cells (cn .u8 (List.replicate 32 0)) 51)] []) (fun a' _=>((sTx T).length-cnt 6 a').toNat) ⟨0,Nat.zero_le _,FF13.pick [0,1,2,3,4,5],MM13⟩ ?_
   rintro ac14 wd14 ⟨k,hk,FF14,MM14⟩
   have hck:=cnt_of (FF14.get 0 rfl)
   refine rg_c FF14 MM14 [(2,t_ (iN ((sTx T).length)))] 7 [38] [] (⟨(vI (bs_size _)),fun _ _ FF15 MM15=>?_⟩)
   by_cases hltk:(64*k)<((sTx T).length)
   ·skip
    refine tN (.inl ⟨(FF15.ev 0 rfl).trans (dec_t hltk),?_⟩)
    refine rg_dc 7 FF15 MM15 [(0,b_ 0),(4,t_ (sB (((sTx T).drop (64*k)).take 64))),(0,t_ (.agg (cn .u32 (sHs (sTx T) (k+1)))))] [(0,b_ 0)] 7 [] [] (⟨rfl,((cZ _ _).trans (sHs_wds (sTx T) k).len),by omega,by omega,(by simp only [bs_size];omega),(vS2 ((bs_extract _ _ _).trans (congrArg bs (cut64 _ _)))),(cP en_rblock (rblock_any (sHs (sTx T) k) (((sTx T).drop (64*k)).take 64) ⟨(sHs_wds (sTx T) k).len,(sHs_wds (sTx T) k).lt⟩ ⟨(by simp;omega),(take_lt (drop_lt (sTx_lt hT)))⟩) _),rfl,((cZ _ _).trans (sHs_wds (sTx T) k).len),((cZ _ _).trans (sHs_wds (sTx T) (k+1)).len),(cn_one _ _),rfl,fun _ _ FF16 MM16=>?_⟩)
    refine inb_n (tN ?_)
    refine rg_c FF16 MM16 [(1,t_ (iN (64*(k+1))))] 7 [] [] (⟨by omega,(vI (by omega)),fun _ _ FF17 MM17=>?_⟩)
    have hdk:=cnt_of (FF17.get 0 rfl)
    refine tN ⟨⟨k+1,by omega,FF17.pick [0,1,2,3,4,5],MM17⟩,?_⟩
    rw [hck,hdk];omega
   ·skip
    refine tN (.inr ⟨(FF15.ev 0 rfl).trans (dec_f hltk),?_⟩)
    obtain rfl:k=(sTx T).length/64:=by omega
    refine tN ?_
    refine wp_seq (rg_c FF15 MM15 [(0,t_ (.agg (cn .u8 (List.replicate 32 0)))),(0,s_ 0 (.cells (cn .u8 (List.replicate 32 0)) 51)),(0,b_ 0)] 8 [] [] (⟨(by kernel_rfl),(by kernel_rfl),fun bu=>⟨rfl,((cZ _ _).trans (List.length_replicate ..)),((cZ _ _).trans (List.length_replicate ..)),(cn_one _ _),rfl,fun _ _ FF18 MM18=>tN ?_⟩⟩))
    have MMr67:MemS _ _ _ [(bu,.cells (cn .u8 (genL 32 (dgF (sHs (sTx T) ((sTx T).length/64))) 0)) 51),_,_] _:=MM18.eqA 0 rfl (by rw [←genL_zero 32 (dgF (sHs (sTx T) ((sTx T).length/64)))] <;> rfl)
    refine wp_seq ?_
    refine wp_seq (rg_c FF18 MMr67 [] 9 [] [] (fun _ _ FF19 MM19=>tN ?_))
    refine wp_for2 (fun a' w'=>∃i:Nat,i≤32∧Fr 66 a' [(8,iN i),(7,pT bu),(6,iN (64*((sTx T).length/64))),(5,pT bh),(4,.int .i64 (7-((8:Nat):Int):Int)),(0,sB (sTx T)),(3,iW (8*T.length)),(2,pT bo)]∧MemS (fun k=>k<w0.heap.size) w0 w' [(bu,.cells (cn .u8 (genL 32 (dgF (sHs (sTx T) ((sTx T).length/64))) i)) 51),(bh,.cells (cn .u32 (sHs (sTx T) ((sTx T).length/64))) 239),(bo,.cells (cn .u8 (List.replicate 32 0)) 51)] []) (fun a' _=>(32-cnt 8 a').toNat) ⟨0,by omega,FF19.pick [0,1,2,3,4,5,6,7],MM19⟩ ?_
    rintro ac20 wd20 ⟨i,hi,FF20,MM20⟩
    have hci:=cnt_of (FF20.get 0 rfl)
    refine rg_c FF20 MM20 [] 9 [50] [] (fun _ _ FF21 MM21=>?_)
    by_cases hlti:i<32
    ·skip
     refine tN (.inl ⟨(FF21.ev 0 rfl).trans (dec_t hlti),?_⟩)
     refine rg_c FF21 MM21 [(3,w_ 1),(0,l_ 1 (.int .u32 ((sHs (sTx T) ((sTx T).length/64)).getD (i/4) 0:Nat))),(5,t_ (iB (dgF (sHs (sTx T) ((sTx T).length/64)) i))),(0,w_ 1),(0,s_ 0 (.cells (cn .u8 (genL 32 (dgF (sHs (sTx T) ((sTx T).length/64))) (i+1))) 51))] 9 [] [] (⟨by decide,by omega,by omega,rfl,(cn_get _ _ _ (by rw [(sHs_wds (sTx T) ((sTx T).length/64)).len];have:=hi;have:=hlti;omega)),by decide,by omega,by omega,by omega,(by show _≤32;have:=(sHs_wds (sTx T) ((sTx T).length/64)).lt (i/4);omega),rfl,by omega,rfl,(by rw [cZ,(genL_len _ _ _)];omega),(.inl rfl),((cn_set _ _ _ _).trans (congrArg _ (genL_step _ _ i (by omega) rfl))),fun _ _ FF22 MM22=>?_⟩)
     refine inb_n (tN ?_)
     refine rg_c FF22 MM22 [] 9 [] [] (⟨by omega,fun _ _ FF23 MM23=>?_⟩)
     have hdi:=cnt_of (FF23.get 0 rfl)
     refine tN ⟨⟨i+1,by omega,FF23.pick [0,1,2,3,4,5,6,7],MM23⟩,?_⟩
     rw [hci,hdi];omega
    ·skip
     refine tN (.inr ⟨(FF21.ev 0 rfl).trans (dec_f hlti),?_⟩)
     obtain rfl:i=32:=by omega
     refine tN ?_
     refine wp_seq (rg_c FF21 MM21 [(0,b_ 0),(0,b_ 2)] 9 [] [] (⟨rfl,((cZ _ _).trans (genL_len _ _ _)),rfl,((cZ _ _).trans (List.length_replicate ..)),((cZ _ _).trans (genL_len _ _ _)),(cn_one _ _),rfl,fun _ _ FF24 MM24=>tN ?_⟩))
     refine wp_ret ?_
     repeat first | refine tR ?_ | refine iR ?_
     exact(retc FF24 MM24 (k:=32) (i:=2) (j:=7) Tryz.results111 rfl rfl Tryz.underlying51 rfl (by kernel_rfl) ((cZ _ _).trans (genL_len _ _ _)) ⟨by rw [←sTx_sha T];rfl,MM24.below⟩)
end Go.Proofs.YtdokjecjiifciaaGreatDoor
