import Derived.Test.YtdokjecjiifciaaGreatDoorZ4
import Derived.Test.YtdokjecjiifciaaGreatDoorZ3
import Derived.OrdersHeld
namespace Go.Proofs.YtdokjecjiifciaaGreatDoor
open Go.RowKit
set_option maxRecDepth 100000
theorem red0 (x:Nat):red x 0=x%pN:=by rw [red,Nat.mul_zero,Nat.add_zero]
theorem fNum_any (n:Nat)(hn:n<18446744073709551616)(w0:World) :
  Calls Tryz.prog 104 #[iW n] w0 fun e w'=>e=.returned (.agg #[iW (fw0 n),iW (fw1 n),iW (fw2 n),iW (fw3 n)])∧Below w0.heap.size w0 w':=by
 refine eF Tryz.func104 rfl Tryz.ntmps104 (by simp) fun ac (FF:Fr 6 ac [(0,iW n)])=>?_
 have MM:=MemS.start w0
 refine wp_seq (rg_c FF MM [] 3 [] [] (fun br=>fun _ _ FF1 MM1=>tN ?_))
 refine wp_seq (rg_c FF1 MM1 [(1,t_ (aG #[iW (fw0 n),iW (fw1 n),iW (fw2 n),iW (fw3 n)])),(0,t_ (aG #[iW (fw0 n),iW (fw1 n),iW (fw2 n),iW (fw3 n)])),(0,b_ 0)] 0 [2] [] (⟨(Eq.trans (show _=some (#[iW n,iW 0,iW 0,iW 0]:Array Value)by kernel_rfl) (congrArg some (Value.agg.inj (small_cells n hn)))),(Eq.trans (show _=some (#[iW (fw0 n),iW (fw1 n),iW (fw2 n),iW (fw3 n)]:Array Value)by kernel_rfl) (congrArg some (Value.agg.inj rfl))),rfl,rfl,rfl,(by kernel_rfl),rfl,fun _ _ FF2 MM2=>tN ?_⟩))
 refine wp_ret ?_
 repeat first | refine tR ?_ | refine iR ?_
 exact(retc FF2 MM2 (k:=4) (i:=0) (j:=0) Tryz.results104 rfl rfl Tryz.underlying194 rfl (by kernel_rfl) rfl ⟨rfl,MM2.below⟩)
theorem fSub_any (x y:Nat)(hx:x<pN)(hy:y<pN)(w0:World) :
  Calls Tryz.prog 137 #[.agg #[iW (fw0 x),iW (fw1 x),iW (fw2 x),iW (fw3 x)],.agg #[iW (fw0 y),iW (fw1 y),iW (fw2 y),iW (fw3 y)]] w0 fun e w'=>e=.returned (.agg #[iW (fw0 ((x+(pN-y))%pN)),iW (fw1 ((x+(pN-y))%pN)),iW (fw2 ((x+(pN-y))%pN)),iW (fw3 ((x+(pN-y))%pN))])∧Below w0.heap.size w0 w':=by
 refine eF Tryz.func137 rfl Tryz.ntmps137 (by simp) fun ac (FF:Fr 13 ac [(0,aG #[iW (fw0 x),iW (fw1 x),iW (fw2 x),iW (fw3 x)]),(1,aG #[iW (fw0 y),iW (fw1 y),iW (fw2 y),iW (fw3 y)])])=>?_
 have MM:=MemS.start w0
 have hs:x+(pN-y)<top4:=by unfold pN top4 at *;omega
 refine wp_seq (rg_c FF MM [] 5 [] [0,1] (fun bx=>fun by_=>fun br=>fun _ _ FF1 MM1=>tN ?_))
 refine wp_seq (rg_dc 8 FF1 MM1 [(1,l_ 2 (aG #[iW (fw0 x),iW (fw1 x),iW (fw2 x),iW (fw3 x)])),(1,l_ 1 (aG #[iW (fw0 y),iW (fw1 y),iW (fw2 y),iW (fw3 y)])),(0,t_ (aG #[iW (fw0 (pN-y)),iW (fw1 (pN-y)),iW (fw2 (pN-y)),iW (fw3 (pN-y))])),(0,t_ (aG #[iW (fw0 (x+(pN-y))),iW (fw1 (x+(pN-y))),iW (fw2 (x+(pN-y))),iW (fw3 (x+(pN-y)))])),(0,t_ (aG #[iW (fw0 ((x+(pN-y))%pN)),iW (fw1 ((x+(pN-y))%pN)),iW (fw2 ((x+(pN-y))%pN)),iW (fw3 ((x+(pN-y))%pN))])),(0,t_ (aG #[iW (fw0 ((x+(pN-y))%pN)),iW (fw1 ((x+(pN-y))%pN)),iW (fw2 ((x+(pN-y))%pN)),iW (fw3 ((x+(pN-y))%pN))]))] [(0,b_ 0)] 0 [4] [] (⟨rfl,(pW _),rfl,rfl,(pW _),rfl,(cP en_fopp (fopp_any y (Nat.le_of_lt hy)) _),(cP en_fplus (fplus_any x (pN-y)) _),(by rw [←red0];exact(cP en_fsettle (fsettle_any (x+(pN-y)) 0 hs (Nat.zero_le _)) _)),(Eq.trans (show _=some (#[iW (fw0 ((x+(pN-y))%pN)),iW (fw1 ((x+(pN-y))%pN)),iW (fw2 ((x+(pN-y))%pN)),iW (fw3 ((x+(pN-y))%pN))]:Array Value)by kernel_rfl) (congrArg some (Value.agg.inj rfl))),rfl,rfl,rfl,(by kernel_rfl),rfl,fun _ _ FF2 MM2=>tN ?_⟩))
 refine wp_ret ?_
 repeat first | refine tR ?_ | refine iR ?_
 exact(retc FF2 MM2 (k:=4) (i:=0) (j:=0) Tryz.results137 rfl rfl Tryz.underlying194 rfl (by kernel_rfl) rfl ⟨rfl,MM2.below⟩)
theorem fPick_0 (x y:Nat)(w0:World) :
  Calls Tryz.prog 135 #[iN 0,.agg #[iW (fw0 x),iW (fw1 x),iW (fw2 x),iW (fw3 x)],.agg #[iW (fw0 y),iW (fw1 y),iW (fw2 y),iW (fw3 y)]] w0 fun e w'=>e=.returned (.agg #[iW (fw0 x),iW (fw1 x),iW (fw2 x),iW (fw3 x)])∧Below w0.heap.size w0 w':=by
 refine eF Tryz.func135 rfl Tryz.ntmps135 (by simp) fun ac (FF:Fr 23 ac [(0,iN 0),(1,aG #[iW (fw0 x),iW (fw1 x),iW (fw2 x),iW (fw3 x)]),(2,aG #[iW (fw0 y),iW (fw1 y),iW (fw2 y),iW (fw3 y)])])=>?_
 have MM:=MemS.start w0
 refine wp_seq (rg_c FF MM [] 7 [] [1,2] (fun bx=>fun by_=>fun br=>fun _ _ FF1 MM1=>tN ?_))
 refine wp_seq (rg_c FF1 MM1 [(2,t_ (iW 1))] 8 [] [0] (⟨by decide,by decide,rfl,fun _ _ FF2 MM2=>tN ?_⟩))
 refine wp_seq (rg_c FF2 MM2 [(2,t_ (iW 18446744073709551615)),(0,t_ (iW 18446744073709551615)),(0,t_ (iW 1)),(0,t_ (iW 0)),(1,l_ 2 (aG #[iW (fw0 x),iW (fw1 x),iW (fw2 x),iW (fw3 x)])),(1,l_ 1 (aG #[iW (fw0 y),iW (fw1 y),iW (fw2 y),iW (fw3 y)])),(0,t_ (aG #[iW (fw0 x),iW (fw1 x),iW (fw2 x),iW (fw3 x)])),(0,t_ (aG #[iW (fw0 x),iW (fw1 x),iW (fw2 x),iW (fw3 x)])),(0,b_ 0)] 0 [6] [] (⟨by decide,rfl,by decide,by decide,rfl,by decide,rfl,by decide,rfl,rfl,(pW _),rfl,rfl,(pW _),rfl,(cP en_fchoose (fchoose_0 x y) _),(Eq.trans (show _=some (#[iW (fw0 x),iW (fw1 x),iW (fw2 x),iW (fw3 x)]:Array Value)by kernel_rfl) (congrArg some (Value.agg.inj rfl))),rfl,rfl,rfl,(by kernel_rfl),rfl,fun _ _ FF3 MM3=>tN ?_⟩))
 refine wp_ret ?_
 repeat first | refine tR ?_ | refine iR ?_
 exact(retc FF3 MM3 (k:=4) (i:=0) (j:=0) Tryz.results135 rfl rfl Tryz.underlying194 rfl (by kernel_rfl) rfl ⟨rfl,MM3.below⟩)
theorem fPick_1 (x y:Nat)(w0:World) :
  Calls Tryz.prog 135 #[iN 1,.agg #[iW (fw0 x),iW (fw1 x),iW (fw2 x),iW (fw3 x)],.agg #[iW (fw0 y),iW (fw1 y),iW (fw2 y),iW (fw3 y)]] w0 fun e w'=>e=.returned (.agg #[iW (fw0 y),iW (fw1 y),iW (fw2 y),iW (fw3 y)])∧Below w0.heap.size w0 w':=by
 refine eF Tryz.func135 rfl Tryz.ntmps135 (by simp) fun ac (FF:Fr 23 ac [(0,iN 1),(1,aG #[iW (fw0 x),iW (fw1 x),iW (fw2 x),iW (fw3 x)]),(2,aG #[iW (fw0 y),iW (fw1 y),iW (fw2 y),iW (fw3 y)])])=>?_
 have MM:=MemS.start w0
 refine wp_seq (rg_c FF MM [] 7 [] [1,2] (fun bx=>fun by_=>fun br=>fun _ _ FF1 MM1=>tN ?_))
 refine wp_seq (rg_c FF1 MM1 [(2,t_ (iW 0))] 8 [] [0] (⟨by decide,by decide,rfl,fun _ _ FF2 MM2=>tN ?_⟩))
 refine wp_seq (rg_c FF2 MM2 [(2,t_ (iW 0)),(0,t_ (iW 0)),(0,t_ (iW 0)),(0,t_ (iW 18446744073709551615)),(1,l_ 2 (aG #[iW (fw0 x),iW (fw1 x),iW (fw2 x),iW (fw3 x)])),(1,l_ 1 (aG #[iW (fw0 y),iW (fw1 y),iW (fw2 y),iW (fw3 y)])),(0,t_ (aG #[iW (fw0 y),iW (fw1 y),iW (fw2 y),iW (fw3 y)])),(0,t_ (aG #[iW (fw0 y),iW (fw1 y),iW (fw2 y),iW (fw3 y)])),(0,b_ 0)] 0 [6] [] (⟨by decide,rfl,by decide,by decide,rfl,by decide,rfl,by decide,rfl,rfl,(pW _),rfl,rfl,(pW _),rfl,(cP en_fchoose (fchoose_1 x y) _),(Eq.trans (show _=some (#[iW (fw0 y),iW (fw1 y),iW (fw2 y),iW (fw3 y)]:Array Value)by kernel_rfl) (congrArg some (Value.agg.inj rfl))),rfl,rfl,rfl,(by kernel_rfl),rfl,fun _ _ FF3 MM3=>tN ?_⟩))
 refine wp_ret ?_
 repeat first | refine tR ?_ | refine iR ?_
 exact(retc FF3 MM3 (k:=4) (i:=0) (j:=0) Tryz.results135 rfl rfl Tryz.underlying194 rfl (by kernel_rfl) rfl ⟨rfl,MM3.below⟩)
def invTo (x:Nat):Nat→Nat
 | 0=>1
 | j+1=>if j=252∨j=250 then invTo x j*invTo x j%pN else(invTo x j*invTo x j%pN)*x%pN
theorem pN_top:pN<top4:=by decide
theorem invTo_lt (x j:Nat):invTo x j<top4:=by
 cases j with
 | zero=>show 1<top4;decide
 | succ j=>
  unfold invTo
  split <;> exact Nat.lt_trans (Nat.mod_lt _ (by decide)) pN_top
theorem inv_yes (x:Nat){k:Nat}(h:k=2∨k=4):invTo x (255-k)=invTo x (255-(k+1))*invTo x (255-(k+1))%pN:=by
 rw [show 255-k=255-(k+1)+1 by omega,invTo,if_pos (by omega)]
theorem inv_no (x:Nat){k:Nat}(h2:k≠2)(h4:k≠4)(hk:k<255):invTo x (255-k)=invTo x (255-(k+1))*invTo x (255-(k+1))%pN*x%pN:=by
 rw [show 255-k=255-(k+1)+1 by omega,invTo,if_neg (by omega)]
set_option maxHeartbeats 1000000 in
theorem fInv_any (x:Nat)(hx:x<top4)(w0:World) :
  Calls Tryz.prog 108 #[.agg #[iW (fw0 x),iW (fw1 x),iW (fw2 x),iW (fw3 x)]] w0 fun e w'=>e=.returned (.agg #[iW (fw0 (invTo x 255)),iW (fw1 (invTo x 255)),iW (fw2 (invTo x 255)),iW (fw3 (invTo x 255))])∧Below w0.heap.size w0 w':=by
 refine eF Tryz.func108 rfl Tryz.ntmps108 (by simp) fun ac (FF:Fr 25 ac [(0,aG #[iW (fw0 x),iW (fw1 x),iW (fw2 x),iW (fw3 x)])])=>?_
 have MM:=MemS.start w0
 refine wp_seq (rg_c FF MM [] 3 [] [0] (fun bx=>fun br=>fun _ _ FF1 MM1=>tN ?_))
 refine wp_seq (rg_c FF1 MM1 [(0,t_ (aG #[iW (fw0 1),iW (fw1 1),iW (fw2 1),iW (fw3 1)])),(1,b_ 0)] 4 [] [] (⟨(Eq.trans (show _=some (#[iW 1,iW 0,iW 0,iW 0]:Array Value)by kernel_rfl) (congrArg some (Value.agg.inj (small_cells 1 (by decide))))),fun bo=>⟨rfl,rfl,rfl,(by kernel_rfl),rfl,fun _ _ FF2 MM2=>tN ?_⟩⟩))
 have MMr4:MemS _ _ _ [(bo,oC #[iW (fw0 (invTo x (255-255))),iW (fw1 (invTo x (255-255))),iW (fw2 (invTo x (255-255))),iW (fw3 (invTo x (255-255)))] 192),_,_] _:=MM2
 refine wp_seq ?_
 refine wp_seq (rg_c FF2 MMr4 [] 5 [] [] (fun _ _ FF3 MM3=>tN ?_))
 refine wp_for2 (fun a' w'=>∃k:Nat,k≤255∧Fr 25 a' [(4,.int .i64 (((k:Nat):Int)-1:Int)),(3,pT bo),(2,pT br),(1,pT bx)]∧MemS (fun k=>k<w0.heap.size) w0 w' [(bo,oC #[iW (fw0 (invTo x (255-k))),iW (fw1 (invTo x (255-k))),iW (fw2 (invTo x (255-k))),iW (fw3 (invTo x (255-k)))] 192),(br,oC #[iW 0,iW 0,iW 0,iW 0] 194),(bx,oC #[iW (fw0 x),iW (fw1 x),iW (fw2 x),iW (fw3 x)] 194)] []) (fun a' _=>(cnt 4 a'+1).toNat) ⟨255,Nat.le_refl _,FF3.pick [0,1,2,3],MM3⟩ ?_
 rintro ac4 wd4 ⟨k,hk,FF4,MM4⟩
 have hc:=cnt_of (FF4.get 0 rfl)
 refine rg_c FF4 MM4 [(1,w_ 4)] 5 [7] [] (fun _ _ FF5 MM5=>?_)
 by_cases hlt:(((k:Nat):Int)-1)≥((0:Nat):Int)
 ·skip
  refine tN (.inl ⟨(FF5.ev 0 rfl).trans (dec_t hlt),?_⟩)
  obtain⟨k,rfl⟩:∃z,k=z+1:=⟨k-1,by omega⟩
  by_cases h2:k=2
  ·skip
   refine wp_seq (rg_c FF5 MM5 [(0,b_ 0),(0,b_ 0),(0,t_ (aG #[iW (fw0 ((invTo x (255-(k+1)))*(invTo x (255-(k+1)))%pN)),iW (fw1 ((invTo x (255-(k+1)))*(invTo x (255-(k+1)))%pN)),iW (fw2 ((invTo x (255-(k+1)))*(invTo x (255-(k+1)))%pN)),iW (fw3 ((invTo x (255-(k+1)))*(invTo x (255-(k+1)))%pN))])),(0,b_ 0)] 5 [] [] (⟨rfl,rfl,rfl,rfl,(cP en_fprod (fprod_any (invTo x (255-(k+1))) (invTo x (255-(k+1))) (invTo_lt _ _) (invTo_lt _ _)) _),rfl,rfl,rfl,(by kernel_rfl),rfl,fun _ _ FF6 MM6=>tN ?_⟩))
   have MMr18:MemS _ _ _ [(bo,oC #[iW (fw0 (invTo x (255-k))),iW (fw1 (invTo x (255-k))),iW (fw2 (invTo x (255-k))),iW (fw3 (invTo x (255-k)))] 192),_,_] _:=MM6.eqA 0 rfl (by rw [inv_yes x (.inl h2)] <;> rfl)
   refine wp_seq (rg_c FF6 MMr18 [(1,u_ 4 (.bool false))] 5 [18] [] (⟨(dec_f (by omega)),fun _ _ FF7 MM7=>tN ?_⟩))
   refine wp_cond_false (FF7.ev 0 rfl) ?_
   refine wp_skip ?_
   refine inb_n (tN ?_)
   refine rg_c FF7 MM7 [(1,u_ 4 (.int .i64 (((k:Nat):Int)-1:Int)))] 5 [] [] (⟨by omega,by omega,(vZ (by omega)),fun _ _ FF8 MM8=>?_⟩)
   have hd:=cnt_of (FF8.get 0 rfl)
   refine tN ⟨⟨k,by omega,FF8.pick [0,1,2,3],MM8⟩,?_⟩
   rw [hc,hd];omega
  by_cases h4:k=4
  ·skip
   refine wp_seq (rg_c FF5 MM5 [(0,b_ 0),(0,b_ 0),(0,t_ (aG #[iW (fw0 ((invTo x (255-(k+1)))*(invTo x (255-(k+1)))%pN)),iW (fw1 ((invTo x (255-(k+1)))*(invTo x (255-(k+1)))%pN)),iW (fw2 ((invTo x (255-(k+1)))*(invTo x (255-(k+1)))%pN)),iW (fw3 ((invTo x (255-(k+1)))*(invTo x (255-(k+1)))%pN))])),(0,b_ 0)] 5 [] [] (⟨rfl,rfl,rfl,rfl,(cP en_fprod (fprod_any (invTo x (255-(k+1))) (invTo x (255-(k+1))) (invTo_lt _ _) (invTo_lt _ _)) _),rfl,rfl,rfl,(by kernel_rfl),rfl,fun _ _ FF9 MM9=>tN ?_⟩))
   have MMr30:MemS _ _ _ [(bo,oC #[iW (fw0 (invTo x (255-k))),iW (fw1 (invTo x (255-k))),iW (fw2 (invTo x (255-k))),iW (fw3 (invTo x (255-k)))] 192),_,_] _:=MM9.eqA 0 rfl (by rw [inv_yes x (.inr h4)] <;> rfl)
   refine wp_seq (rg_c FF9 MMr30 [(1,w_ 6),(2,u_ 4 (.bool false))] 5 [18] [] (⟨by omega,(dec_f (by omega)),fun _ _ FF10 MM10=>tN ?_⟩))
   refine wp_cond_false (FF10.ev 0 rfl) ?_
   refine wp_skip ?_
   refine inb_n (tN ?_)
   refine rg_c FF10 MM10 [(1,u_ 4 (.int .i64 (((k:Nat):Int)-1:Int)))] 5 [] [] (⟨by omega,by omega,(vZ (by omega)),fun _ _ FF11 MM11=>?_⟩)
   have hd:=cnt_of (FF11.get 0 rfl)
   refine tN ⟨⟨k,by omega,FF11.pick [0,1,2,3],MM11⟩,?_⟩
   rw [hc,hd];omega
  refine wp_seq (rg_c FF5 MM5 [(0,b_ 0),(0,b_ 0),(0,t_ (aG #[iW (fw0 ((invTo x (255-(k+1)))*(invTo x (255-(k+1)))%pN)),iW (fw1 ((invTo x (255-(k+1)))*(invTo x (255-(k+1)))%pN)),iW (fw2 ((invTo x (255-(k+1)))*(invTo x (255-(k+1)))%pN)),iW (fw3 ((invTo x (255-(k+1)))*(invTo x (255-(k+1)))%pN))])),(0,b_ 0)] 5 [] [] (⟨rfl,rfl,rfl,rfl,(cP en_fprod (fprod_any (invTo x (255-(k+1))) (invTo x (255-(k+1))) (invTo_lt _ _) (invTo_lt _ _)) _),rfl,rfl,rfl,(by kernel_rfl),rfl,fun _ _ FF12 MM12=>tN ?_⟩))
  refine wp_seq (rg_c FF12 MM12 [(1,w_ 6),(2,w_ 6)] 5 [18] [] (⟨by omega,by omega,fun _ _ FF13 MM13=>tN ?_⟩))
  refine wp_cond_true (FF13.ev 0 rfl) ?_
  refine rg_c FF13 MM13 [(0,b_ 0),(1,l_ 2 (aG #[iW (fw0 x),iW (fw1 x),iW (fw2 x),iW (fw3 x)])),(0,t_ (aG #[iW (fw0 ((invTo x (255-(k+1))*invTo x (255-(k+1))%pN)*x%pN)),iW (fw1 ((invTo x (255-(k+1))*invTo x (255-(k+1))%pN)*x%pN)),iW (fw2 ((invTo x (255-(k+1))*invTo x (255-(k+1))%pN)*x%pN)),iW (fw3 ((invTo x (255-(k+1))*invTo x (255-(k+1))%pN)*x%pN))])),(0,b_ 0)] 5 [] [] (⟨rfl,rfl,rfl,(pW _),rfl,(cP en_fprod (fprod_any (invTo x (255-(k+1))*invTo x (255-(k+1))%pN) x (Nat.lt_trans (Nat.mod_lt _ (by decide)) pN_top) hx) _),rfl,rfl,rfl,(by kernel_rfl),rfl,fun _ _ FF14 MM14=>?_⟩)
  have MMr43:MemS _ _ _ [(bo,oC #[iW (fw0 (invTo x (255-k))),iW (fw1 (invTo x (255-k))),iW (fw2 (invTo x (255-k))),iW (fw3 (invTo x (255-k)))] 192),_,_] _:=MM14.eqA 0 rfl (by rw [inv_no x h2 h4 (by omega)] <;> rfl)
  refine inb_n (tN ?_)
  refine rg_c FF14 MMr43 [(1,u_ 4 (.int .i64 (((k:Nat):Int)-1:Int)))] 5 [] [] (⟨by omega,by omega,(vZ (by omega)),fun _ _ FF15 MM15=>?_⟩)
  have hd:=cnt_of (FF15.get 0 rfl)
  refine tN ⟨⟨k,by omega,FF15.pick [0,1,2,3],MM15⟩,?_⟩
  rw [hc,hd];omega
 ·skip
  refine tN (.inr ⟨(FF5.ev 0 rfl).trans (dec_f hlt),?_⟩)
  obtain rfl:k=0:=by omega
  refine tN ?_
  refine wp_seq (rg_c FF5 MM5 [(0,b_ 0),(0,t_ (aG #[iW (fw0 (invTo x (255-0))),iW (fw1 (invTo x (255-0))),iW (fw2 (invTo x (255-0))),iW (fw3 (invTo x (255-0)))])),(0,b_ 1)] 5 [] [] (⟨rfl,rfl,(Eq.trans (show _=some (#[iW (fw0 (invTo x (255-0))),iW (fw1 (invTo x (255-0))),iW (fw2 (invTo x (255-0))),iW (fw3 (invTo x (255-0)))]:Array Value)by kernel_rfl) (congrArg some (Value.agg.inj rfl))),rfl,rfl,rfl,(by kernel_rfl),rfl,fun _ _ FF16 MM16=>tN ?_⟩))
  refine wp_ret ?_
  repeat first | refine tR ?_ | refine iR ?_
  exact(retc FF16 MM16 (k:=4) (i:=1) (j:=2) Tryz.results108 rfl rfl Tryz.underlying194 rfl (by kernel_rfl) rfl ⟨rfl,MM16.below⟩)
def wordTo (ks:List Nat)(f:Nat):Nat→Nat
 | 0=>0
 | k+1=>wordTo ks f k+ks.getD (f+k) 0*256^k
def KBytes (ks:List Nat):Prop:=ks.length=32∧∀i,ks.getD i 0<256
theorem wordTo_lt {ks:List Nat}(h:KBytes ks)(f:Nat):∀k,wordTo ks f k<256^k
 | 0=>Nat.one_pos
 | k+1=>by
  have h1:=wordTo_lt h f k
  have h2:ks.getD (f+k) 0*256^k≤255*256^k:=Nat.mul_le_mul_right _ (Nat.le_of_lt_succ (h.2 _))
  rw [wordTo,Nat.pow_succ]
  omega
theorem p256 (k:Nat):256^k=2^(8*k):=by rw [Nat.pow_mul]
theorem wordTo_low {ks:List Nat}(h:KBytes ks)(f:Nat){k:Nat}(hk:k≤8):wordTo ks f k<18446744073709551616:=
 Nat.lt_of_lt_of_le (wordTo_lt h f k) (Nat.le_trans (Nat.pow_le_pow_right (by decide) hk) (by decide))
theorem word_fit {ks:List Nat}(h:KBytes ks)(f:Nat){k:Nat}(hk:k<8):ks.getD (f+k) 0*2^(8*k)<18446744073709551616:=by
 have h1:=wordTo_low h f (show k+1≤8 from hk)
 rw [wordTo,p256]at h1
 omega
theorem word_or {ks:List Nat}(h:KBytes ks)(f k:Nat):wordTo ks f k ||| ks.getD (f+k) 0*2^(8*k)=wordTo ks f (k+1):=by
 rw [or_shl (8*k) (p256 k▸wordTo_lt h f k),wordTo,p256]
def numOf (ks:List Nat):Nat:=mk4 (wordTo ks 0 8) (wordTo ks 8 8) (wordTo ks 16 8) (wordTo ks 24 8%9223372036854775808)
theorem numOf_cells {ks:List Nat}(h:KBytes ks):Value.agg #[iW (wordTo ks 0 8),iW (wordTo ks 8 8),iW (wordTo ks 16 8),iW (wordTo ks 24 8%9223372036854775808)]=.agg #[iW (fw0 (numOf ks)),iW (fw1 (numOf ks)),iW (fw2 (numOf ks)),iW (fw3 (numOf ks))]:=by
 obtain⟨a,b,c,d⟩:=w_mk4 (wordTo_low h 0 (Nat.le_refl 8)) (wordTo_low h 8 (Nat.le_refl 8)) (wordTo_low h 16 (Nat.le_refl 8)) (Nat.lt_of_lt_of_le (Nat.mod_lt (wordTo ks 24 8) (show 0<9223372036854775808 by decide)) (by decide))
 rw [numOf,a,b,c,d]
theorem numOf_lt {ks:List Nat}(h:KBytes ks):numOf ks<top4:=mk4_lt (wordTo_low h 0 (Nat.le_refl 8)) (wordTo_low h 8 (Nat.le_refl 8)) (wordTo_low h 16 (Nat.le_refl 8)) (Nat.lt_of_lt_of_le (Nat.mod_lt (wordTo ks 24 8) (show 0<9223372036854775808 by decide)) (by decide))
def wq (x q:Nat):Nat:=if q=0 then fw0 x else if q=1 then fw1 x else if q=2 then fw2 x else fw3 x
def kb (x j:Nat):Nat:=wq x (j/8)/256^(j%8)%256
def keyL (x:Nat):List Nat:=(List.range 32).map (kb x)
theorem kb_at {x i q:Nat}(h:i<8){v:Nat}(hv:wq x q=v):v/2^(8*i)%256=kb x (i+8*q):=by
 rw [kb,show(i+8*q)/8=q by omega,show(i+8*q)%8=i by omega,p256,hv]
def keyT (x i:Nat):List Nat:=(List.range 32).map fun j=>if j%8<i then kb x j else 0
theorem keyT_len (x i:Nat):(keyT x i).length=32:=by simp [keyT]
theorem keyT_get (x i:Nat){j:Nat}(h:j<32):(keyT x i).getD j 0=if j%8<i then kb x j else 0:=by simp [keyT,h]
theorem keyT_all (x:Nat):keyT x 8=keyL x:=List.map_congr_left fun j _=>if_pos (Nat.mod_lt _ (by decide))
theorem keyT_step (x:Nat){i:Nat}(hi:i<8):((((keyT x i).set i (kb x (i+8*0))).set (i+8) (kb x (i+8*1))).set (i+16) (kb x (i+8*2))).set (i+24) (kb x (i+8*3))=keyT x (i+1):=by
 refine ext_getD (by simp [keyT]) fun j hj=>?_
 simp only [List.length_set,keyT_len]at hj
 simp only [getD_set,List.length_set,keyT_len]
 rw [keyT_get x i hj,keyT_get x (i+1) hj]
 by_cases h3:i+24=j
 ·rw [if_pos ⟨h3,by omega⟩,if_pos (by omega),←h3]
 rw [if_neg (fun q=>h3 q.1)]
 by_cases h2:i+16=j
 ·rw [if_pos ⟨h2,by omega⟩,if_pos (by omega),←h2]
 rw [if_neg (fun q=>h2 q.1)]
 by_cases h1:i+8=j
 ·rw [if_pos ⟨h1,by omega⟩,if_pos (by omega),←h1]
 rw [if_neg (fun q=>h1 q.1)]
 by_cases h0:i=j
 ·rw [if_pos ⟨h0,by omega⟩,if_pos (by omega),←h0];rfl
 rw [if_neg (fun q=>h0 q.1)]
 by_cases h:j%8<i
 ·rw [if_pos h,if_pos (by omega)]
 ·rw [if_neg h,if_neg (by omega)]
theorem fword_any (ks:List Nat)(hk:KBytes ks)(f:Nat)(hf:f≤24)(w0:World) :
  Calls Tryz.prog 133 #[.agg (cn .u8 ks),iN f] w0 fun e w'=>e=.returned (iW (wordTo ks f 8))∧Below w0.heap.size w0 w':=by
 refine eF Tryz.func133 rfl Tryz.ntmps133 (by simp) fun ac (FF:Fr 23 ac [(0,.agg (cn .u8 ks)),(1,iN f)])=>?_
 have MM:=MemS.start w0
 refine wp_seq (rg_c FF MM [(0,s_ 0 (.cells (cn .u8 ks) 52))] 5 [] [0] (⟨(by kernel_rfl),fun bk=>fun _ _ FF1 MM1=>tN ?_⟩))
 refine wp_seq (rg_c FF1 MM1 [] 6 [] [] (fun _ _ FF2 MM2=>tN ?_))
 refine wp_seq ?_
 refine wp_seq (rg_c FF2 MM2 [] 8 [] [] (fun _ _ FF3 MM3=>tN ?_))
 refine wp_for (fun a' w'=>∃i:Nat,i≤8∧Fr 23 a' [(7,iN i),(5,iW (wordTo ks f i)),(4,iW 0),(2,pT bk),(1,iN f)]∧MemS (fun k=>k<w0.heap.size) w0 w' [(bk,.cells (cn .u8 ks) 52)] []) (fun a' _=>(8-cnt 7 a').toNat) ⟨0,Nat.zero_le _,FF3.pick [0,1,2,3,4],MM3⟩ ?_
 rintro ac4 wd4 ⟨i,hi,FF4,MM4⟩
 have hc:=cnt_of (FF4.get 0 rfl)
 refine rg_c FF4 MM4 [] 9 [] [] (fun _ _ FF5 MM5=>?_)
 by_cases hlt:i<8
 ·skip
  refine tN (.inl ⟨(FF5.ev 0 rfl).trans (dec_t hlt),?_⟩)
  refine wp_seq (rg_c FF5 MM5 [] 8 [] [] (fun _ _ FF6 MM6=>tN ?_))
  refine rg_c FF6 MM6 [(4,w_ 1),(0,l_ 0 (iB (ks.getD (f+i) 0))),(0,w_ 1),(2,t_ (iW (ks.getD (f+i) 0*2^(8*i)))),(0,t_ (iW (wordTo ks f (i+1))))] 8 [] [] (⟨by omega,by omega,rfl,(cn_get _ _ _ (by rw [hk.1];omega)),(by have:=hk.2 (f+i);omega),by omega,(vI (Nat.mod_eq_of_lt (word_fit hk f (by omega)))),(wordTo_low hk f hi),(word_fit hk f (by omega)),(vI (word_or hk f i)),fun _ _ FF7 MM7=>?_⟩)
  refine inb_n (tN ?_)
  refine rg_c FF7 MM7 [] 8 [] [] (⟨by omega,fun _ _ FF8 MM8=>?_⟩)
  have hd:=cnt_of (FF8.get 0 rfl)
  refine tN ⟨⟨i+1,by omega,FF8.pick [0,1,3,4,5],MM8⟩,?_⟩
  rw [hc,hd];omega
 ·skip
  refine tN (.inr ⟨(FF5.ev 0 rfl).trans (dec_f hlt),?_⟩)
  obtain rfl:i=8:=by omega
  refine tN ?_
  refine wp_seq (rg_c FF5 MM5 [] 8 [] [] (fun _ _ FF9 MM9=>tN ?_))
  refine wp_ret ?_
  repeat first | refine tR ?_ | refine iR ?_
  exact(ret_fr FF9 0 Tryz.results133 rfl ⟨rfl,MM9.below⟩)
theorem fOf_any (ks:List Nat)(hk:KBytes ks)(w0:World) :
  Calls Tryz.prog 103 #[.agg (cn .u8 ks)] w0 fun e w'=>e=.returned (.agg #[iW (fw0 (numOf ks%pN)),iW (fw1 (numOf ks%pN)),iW (fw2 (numOf ks%pN)),iW (fw3 (numOf ks%pN))])∧Below w0.heap.size w0 w':=by
 refine eF Tryz.func103 rfl Tryz.ntmps103 (by simp) fun ac (FF:Fr 17 ac [(0,.agg (cn .u8 ks))])=>?_
 have MM:=MemS.start w0
 refine wp_seq (rg_c FF MM [(0,s_ 0 (.cells (cn .u8 ks) 52))] 3 [] [0] (⟨(by kernel_rfl),fun bk=>fun br=>fun _ _ FF1 MM1=>tN ?_⟩))
 refine wp_seq (rg_draw FF1 MM1 [.inl (.agg (cn .u8 ks)),.inl (iW (wordTo ks 0 8)),.inl (.agg (cn .u8 ks)),.inl (iW (wordTo ks 8 8)),.inl (.agg (cn .u8 ks)),.inl (iW (wordTo ks 16 8)),.inl (.agg (cn .u8 ks)),.inl (iW (wordTo ks 24 8)),.inl (iW (wordTo ks 24 8%9223372036854775808)),.inl (aG #[iW (fw0 (numOf ks)),iW (fw1 (numOf ks)),iW (fw2 (numOf ks)),iW (fw3 (numOf ks))]),.inr (oC #[iW 0,iW 0,iW 0,iW 0] 192,fun b=>pT b)] [10] [b_ 1,t_ (iW (wordTo ks 0 8)),b_ 1,t_ (iW (wordTo ks 8 8)),b_ 1,t_ (iW (wordTo ks 16 8)),b_ 1,t_ (iW (wordTo ks 24 8)),f_ (iW (wordTo ks 24 8%9223372036854775808)),t_ (aG #[iW (fw0 (numOf ks)),iW (fw1 (numOf ks)),iW (fw2 (numOf ks)),iW (fw3 (numOf ks))]),o_] [b_ 0] [2,3] (fun nb=>[bk=bk,(cn .u8 ks).size=32,CallP Tryz.prog 133 [.agg (cn .u8 ks),iN 0] [] (iW (wordTo ks 0 8)),bk=bk,(cn .u8 ks).size=32,CallP Tryz.prog 133 [.agg (cn .u8 ks),iN 8] [] (iW (wordTo ks 8 8)),bk=bk,(cn .u8 ks).size=32,CallP Tryz.prog 133 [.agg (cn .u8 ks),iN 16] [] (iW (wordTo ks 16 8)),bk=bk,(cn .u8 ks).size=32,CallP Tryz.prog 133 [.agg (cn .u8 ks),iN 24] [] (iW (wordTo ks 24 8)),RunV Tryz.prog [(11,iW (wordTo ks 24 8)),(2,pT br),(1,pT bk)] [(br,oC #[iW 0,iW 0,iW 0,iW 0] 194),(bk,.cells (cn .u8 ks) 52)] (opAt Tryz.f103 1 8) (iW (wordTo ks 24 8%9223372036854775808)),aG #[iW (wordTo ks 0 8),iW (wordTo ks 8 8),iW (wordTo ks 16 8),iW (wordTo ks 24 8%9223372036854775808)]=aG #[iW (fw0 (numOf ks)),iW (fw1 (numOf ks)),iW (fw2 (numOf ks)),iW (fw3 (numOf ks))]]) (fun nb Kt=>(nb 10)=(nb 10)∧(#[iW 0,iW 0,iW 0,iW 0]:Array Value).size=4∧(#[iW (fw0 (numOf ks)),iW (fw1 (numOf ks)),iW (fw2 (numOf ks)),iW (fw3 (numOf ks))]:Array Value).size=4∧(#[iW (fw0 (numOf ks)),iW (fw1 (numOf ks)),iW (fw2 (numOf ks)),iW (fw3 (numOf ks))]:Array Value).all (·.oneCell')=true∧(0,0).2=0∧Kt [(3,pT (nb 10)),(2,pT br)] [((nb 10),oC #[iW (fw0 (numOf ks)),iW (fw1 (numOf ks)),iW (fw2 (numOf ks)),iW (fw3 (numOf ks))] 192),(br,oC #[iW 0,iW 0,iW 0,iW 0] 194),(bk,.cells (cn .u8 ks) 52)]) (by kernel_rfl) (by kernel_rfl) (by kernel_rfl) (fun _=>by kernel_rfl) (fun _ _=>by kernel_rfl) ⟨⟨_,rfl⟩,rfl,trivial⟩ (fun nb=>⟨rfl,((cZ _ _).trans hk.1),(cP en_fword (fword_any ks hk 0 (by decide)) _),rfl,((cZ _ _).trans hk.1),(cP en_fword (fword_any ks hk 8 (by decide)) _),rfl,((cZ _ _).trans hk.1),(cP en_fword (fword_any ks hk 16 (by decide)) _),rfl,((cZ _ _).trans hk.1),(cP en_fword (fword_any ks hk 24 (by decide)) _),(andNot_ok (t:=22) (t':=22) (x:=(.tmp 11)) (y:=(.const (iW 9223372036854775808))) (k:=.u64) (a:=wordTo ks 24 8) (b:=9223372036854775808) (r:=wordTo ks 24 8%9223372036854775808) (by kernel_rfl) rfl rfl (andNot_top (wordTo_low hk 24 (Nat.le_refl 8)))),(numOf_cells hk),trivial⟩) (fun nb=>⟨rfl,rfl,rfl,(by kernel_rfl),rfl,fun _ _ FF2 MM2=>tN ?_⟩))
 generalize nb 10=bw at *
 refine wp_seq (rg_c FF2 MM2 [(0,b_ 0),(0,t_ (aG #[iW (fw0 (numOf ks%pN)),iW (fw1 (numOf ks%pN)),iW (fw2 (numOf ks%pN)),iW (fw3 (numOf ks%pN))])),(0,t_ (aG #[iW (fw0 (numOf ks%pN)),iW (fw1 (numOf ks%pN)),iW (fw2 (numOf ks%pN)),iW (fw3 (numOf ks%pN))])),(0,b_ 1)] 4 [] [] (⟨rfl,rfl,(by rw [←red0];exact(cP en_fsettle (fsettle_any (numOf ks) 0 (numOf_lt hk) (Nat.zero_le _)) _)),(Eq.trans (show _=some (#[iW (fw0 (numOf ks%pN)),iW (fw1 (numOf ks%pN)),iW (fw2 (numOf ks%pN)),iW (fw3 (numOf ks%pN))]:Array Value)by kernel_rfl) (congrArg some (Value.agg.inj rfl))),rfl,rfl,rfl,(by kernel_rfl),rfl,fun _ _ FF3 MM3=>tN ?_⟩))
 refine wp_ret ?_
 repeat first | refine tR ?_ | refine iR ?_
 exact(retc FF3 MM3 (k:=4) (i:=1) (j:=1) Tryz.results103 rfl rfl Tryz.underlying194 rfl (by kernel_rfl) rfl ⟨rfl,MM3.below⟩)
theorem fKey_any (x:Nat)(w0:World) :
  Calls Tryz.prog 109 #[.agg #[iW (fw0 x),iW (fw1 x),iW (fw2 x),iW (fw3 x)]] w0 fun e w'=>e=.returned (.agg (cn .u8 (keyL x)))∧Below w0.heap.size w0 w':=by
 refine eF Tryz.func109 rfl Tryz.ntmps109 (by simp) fun ac (FF:Fr 49 ac [(0,aG #[iW (fw0 x),iW (fw1 x),iW (fw2 x),iW (fw3 x)])])=>?_
 have MM:=MemS.start w0
 refine wp_seq (rg_c FF MM [(1,s_ 0 (.cells (cn .u8 (List.replicate 32 0)) 52))] 3 [] [0] (fun bx=>⟨(by kernel_rfl),fun br=>fun _ _ FF1 MM1=>tN ?_⟩))
 refine wp_seq (rg_c FF1 MM1 [(0,s_ 0 (.cells (cn .u8 (List.replicate 32 0)) 52))] 4 [] [] (⟨(by kernel_rfl),fun bo=>fun _ _ FF2 MM2=>tN ?_⟩))
 have MMr4:MemS _ _ _ [(bo,.cells (cn .u8 (keyT x 0)) 52),_,_] _:=MM2
 refine wp_seq ?_
 refine wp_seq (rg_c FF2 MMr4 [] 6 [] [] (fun _ _ FF3 MM3=>tN ?_))
 refine wp_for (fun a' w'=>∃i:Nat,i≤8∧Fr 49 a' [(5,iN i),(3,pT bo),(2,pT br),(1,pT bx)]∧MemS (fun k=>k<w0.heap.size) w0 w' [(bo,.cells (cn .u8 (keyT x i)) 52),(br,.cells (cn .u8 (List.replicate 32 0)) 52),(bx,oC #[iW (fw0 x),iW (fw1 x),iW (fw2 x),iW (fw3 x)] 194)] []) (fun a' _=>(8-cnt 5 a').toNat) ⟨0,Nat.zero_le _,FF3.pick [0,1,2,3],MM3⟩ ?_
 rintro ac4 wd4 ⟨i,hi,FF4,MM4⟩
 have hc:=cnt_of (FF4.get 0 rfl)
 refine rg_c FF4 MM4 [] 7 [] [] (fun _ _ FF5 MM5=>?_)
 by_cases hlt:i<8
 ·skip
  refine tN (.inl ⟨(FF5.ev 0 rfl).trans (dec_t hlt),?_⟩)
  refine wp_seq (rg_c FF5 MM5 [] 6 [] [] (fun _ _ FF6 MM6=>tN ?_))
  refine wp_seq (rg_c FF6 MM6 [(3,l_ 2 (iW (fw0 x))),(3,t_ (iB (kb x (i+8*0)))),(0,w_ 1),(0,s_ 0 (.cells (cn .u8 ((keyT x i).set i (kb x (i+8*0)))) 52))] 6 [] [] (⟨rfl,rfl,by omega,(by show _≤64;have:=fw0_lt x;omega),(vI (kb_at hlt rfl)),by omega,rfl,(by rw [cZ,(keyT_len _ _)];omega),(.inl rfl),(cn_set _ _ _ _),fun _ _ FF7 MM7=>tN ?_⟩))
  refine wp_seq (rg_c FF7 MM7 [(4,l_ 2 (iW (fw1 x))),(3,t_ (iB (kb x (i+8*1)))),(0,w_ 1),(0,s_ 0 (.cells (cn .u8 (((keyT x i).set i (kb x (i+8*0))).set (i+8) (kb x (i+8*1)))) 52))] 6 [] [] (⟨by omega,rfl,rfl,by omega,(by show _≤64;have:=fw1_lt x;omega),(vI (kb_at hlt rfl)),by omega,rfl,(by rw [cZ,(len_set (keyT_len _ _))];omega),(.inl rfl),(cn_set _ _ _ _),fun _ _ FF8 MM8=>tN ?_⟩))
  refine wp_seq (rg_c FF8 MM8 [(4,l_ 2 (iW (fw2 x))),(3,t_ (iB (kb x (i+8*2)))),(0,w_ 1),(0,s_ 0 (.cells (cn .u8 ((((keyT x i).set i (kb x (i+8*0))).set (i+8) (kb x (i+8*1))).set (i+16) (kb x (i+8*2)))) 52))] 6 [] [] (⟨by omega,rfl,rfl,by omega,(by show _≤64;have:=fw2_lt x;omega),(vI (kb_at hlt rfl)),by omega,rfl,(by rw [cZ,(len_set (len_set (keyT_len _ _)))];omega),(.inl rfl),(cn_set _ _ _ _),fun _ _ FF9 MM9=>tN ?_⟩))
  refine rg_c FF9 MM9 [(4,l_ 2 (iW (fw3 x))),(3,t_ (iB (kb x (i+8*3)))),(0,w_ 1),(0,s_ 0 (.cells (cn .u8 (((((keyT x i).set i (kb x (i+8*0))).set (i+8) (kb x (i+8*1))).set (i+16) (kb x (i+8*2))).set (i+24) (kb x (i+8*3)))) 52))] 6 [] [] (⟨by omega,rfl,rfl,by omega,(by show _≤64;have:=fw3_lt x;omega),(vI (kb_at hlt rfl)),by omega,rfl,(by rw [cZ,(len_set (len_set (len_set (keyT_len _ _))))];omega),(.inl rfl),(cn_set _ _ _ _),fun _ _ FF10 MM10=>?_⟩)
  have MMr19:MemS _ _ _ [(bo,.cells (cn .u8 (keyT x (i+1))) 52),_,_] _:=MM10.eqA 0 rfl (by rw [←keyT_step x hlt] <;> rfl)
  refine inb_n (tN ?_)
  refine rg_c FF10 MMr19 [] 6 [] [] (⟨by omega,fun _ _ FF11 MM11=>?_⟩)
  have hd:=cnt_of (FF11.get 0 rfl)
  refine tN ⟨⟨i+1,by omega,FF11.pick [0,2,3,4],MM11⟩,?_⟩
  rw [hc,hd];omega
 ·skip
  refine tN (.inr ⟨(FF5.ev 0 rfl).trans (dec_f hlt),?_⟩)
  obtain rfl:i=8:=by omega
  refine tN ?_
  refine wp_seq (rg_c FF5 MM5 [(0,b_ 0),(0,b_ 1)] 6 [] [] (⟨rfl,((cZ _ _).trans (keyT_len _ _)),rfl,((cZ _ _).trans (List.length_replicate ..)),((cZ _ _).trans (keyT_len _ _)),(cn_one _ _),rfl,fun _ _ FF12 MM12=>tN ?_⟩))
  refine wp_ret ?_
  repeat first | refine tR ?_ | refine iR ?_
  exact(retc FF12 MM12 (k:=32) (i:=1) (j:=2) Tryz.results109 rfl rfl Tryz.underlying52 rfl (by kernel_rfl) ((cZ _ _).trans (keyT_len _ _)) ⟨by rw [keyT_all],MM12.below⟩)
def addTo (f:Nat→Nat):Nat→Nat
 | 0=>f 0
 | i+1=>(addTo f i+f (i+1))%pN
def mulTo (f:Nat→Nat):Nat→Nat
 | 0=>f 0
 | i+1=>(mulTo f i)*(f (i+1))%pN
theorem addTo_lt {f:Nat→Nat}{n:Nat}(h:∀j,j<n→f j<pN):∀i,i<n→addTo f i<pN
 | 0,hi=>h 0 hi
 | _+1,_=>Nat.mod_lt _ (by decide)
theorem mulTo_lt {f:Nat→Nat}{n:Nat}(h:∀j,j<n→f j<pN):∀i,i<n→mulTo f i<pN
 | 0,hi=>h 0 hi
 | _+1,_=>Nat.mod_lt _ (by decide)
set_option maxHeartbeats 1000000 in
theorem fAdd_any (f:Nat→Nat)(n cap b:Nat)(cs:Array Value)(fr:Nat×Nat)(h2:2≤n)(hn:n≤1000)(hcap:n≤cap)(hf:∀j,j<n→f j<pN)(hp:∀j,j<n→PartAt cs (j*4) #[iW (fw0 (f j)),iW (fw1 (f j)),iW (fw2 (f j)),iW (fw3 (f j))])(w0:World)(hb:w0.heap[b]? = some (.cells cs 194 fr)) :
  Calls Tryz.prog 136 #[.slice (some ⟨b,0,none⟩) n cap] w0 fun e w'=>e=.returned (.agg #[iW (fw0 (addTo f (n-1))),iW (fw1 (addTo f (n-1))),iW (fw2 (addTo f (n-1))),iW (fw3 (addTo f (n-1)))])∧Below w0.heap.size w0 w':=by
 have MM:=MemS.start1 hb
 refine eF Tryz.func136 rfl Tryz.ntmps136 (by simp) fun ac (FF:Fr 29 ac [(0,.slice (some ⟨b,0,none⟩) n cap)])=>?_
 refine wp_seq (rg_c FF MM [] 3 [] [] (fun br=>fun _ _ FF1 MM1=>tN ?_))
 refine wp_seq ?_
 refine wp_seq (rg_c FF1 MM1 [(2,w_ 3)] 3 [8] [] (⟨by omega,fun _ _ FF2 MM2=>tN ?_⟩))
 refine wp_cond_false (FF2.ev 0 rfl) ?_
 refine wp_skip ?_
 refine tN ?_
 refine wp_seq (rg_c FF2 MM2 [(1,w_ 1),(1,l_ 1 (aG #[iW (fw0 (f 0)),iW (fw1 (f 0)),iW (fw2 (f 0)),iW (fw3 (f 0))])),(1,b_ 0)] 4 [] [] (⟨by omega,rfl,(hp 0 (by omega)),rfl,fun bo=>⟨rfl,rfl,rfl,(by kernel_rfl),rfl,fun _ _ FF3 MM3=>tN ?_⟩⟩))
 have MMr9:MemS _ _ _ [(bo,oC #[iW (fw0 (addTo f 0)),iW (fw1 (addTo f 0)),iW (fw2 (addTo f 0)),iW (fw3 (addTo f 0))] 192),_,_] _:=MM3
 refine wp_seq ?_
 refine wp_seq (rg_c FF3 MMr9 [] 18 [] [14] (⟨by omega,by omega,by omega,fun _ _ FF4 MM4=>tN ?_⟩))
 refine wp_for (fun a' w'=>∃i:Nat,i≤n-1∧Fr 29 a' [(17,iN i),(16,iN (n-1)),(15,.slice (some ⟨b,4,none⟩) (n-1) (cap-1)),(3,pT bo),(2,pT br),(0,.slice (some ⟨b,0,none⟩) n cap)]∧MemS (fun k=>k<w0.heap.size∧k≠b) w0 w' [(bo,oC #[iW (fw0 (addTo f i)),iW (fw1 (addTo f i)),iW (fw2 (addTo f i)),iW (fw3 (addTo f i))] 192),(br,oC #[iW 0,iW 0,iW 0,iW 0] 194),(b,.cells cs 194 fr)] []) (fun a' _=>(n-1-cnt 17 a').toNat) ⟨0,Nat.zero_le _,FF4.pick [0,1,2,3,4,5],MM4⟩ ?_
 rintro ac5 wd5 ⟨i,hi,FF5,MM5⟩
 have hc:=cnt_of (FF5.get 0 rfl)
 refine rg_c FF5 MM5 [] 19 [] [] (fun _ _ FF6 MM6=>?_)
 by_cases hlt:i<(n-1)
 ·skip
  refine tN (.inl ⟨(FF6.ev 0 rfl).trans (dec_t hlt),?_⟩)
  have hpi:=hp (i+1) (by omega)
  rw [show(i+1)*4=4+i*4 by omega]at hpi
  have hv:=addTo_lt hf i (by omega)
  have hfi:=hf (i+1) (by omega)
  refine wp_seq (rg_c FF6 MM6 [(1,l_ 2 (aG #[iW (fw0 (f (i+1))),iW (fw1 (f (i+1))),iW (fw2 (f (i+1))),iW (fw3 (f (i+1)))])),(1,b_ 0)] 18 [] [] (⟨by omega,rfl,hpi,rfl,fun be=>⟨rfl,rfl,rfl,(by kernel_rfl),rfl,fun _ _ FF7 MM7=>tN ?_⟩⟩))
  have hsm:addTo f i+f (i+1)<top4:=by unfold pN top4 at *;omega
  refine rg_c FF7 MM7 [(0,b_ 1),(1,l_ 0 (aG #[iW (fw0 (f (i+1))),iW (fw1 (f (i+1))),iW (fw2 (f (i+1))),iW (fw3 (f (i+1)))])),(0,t_ (aG #[iW (fw0 (addTo f i+f (i+1))),iW (fw1 (addTo f i+f (i+1))),iW (fw2 (addTo f i+f (i+1))),iW (fw3 (addTo f i+f (i+1)))])),(0,t_ (aG #[iW (fw0 (addTo f (i+1))),iW (fw1 (addTo f (i+1))),iW (fw2 (addTo f (i+1))),iW (fw3 (addTo f (i+1)))])),(0,b_ 1)] 18 [] [] (⟨rfl,rfl,rfl,(pW _),rfl,(cP en_fplus (fplus_any (addTo f i) (f (i+1))) _),(by show CallP _ _ _ _ (.agg #[iW (fw0 ((addTo f i+f (i+1))%pN)),iW (fw1 ((addTo f i+f (i+1))%pN)),iW (fw2 ((addTo f i+f (i+1))%pN)),iW (fw3 ((addTo f i+f (i+1))%pN))]);rw [←red0];exact(cP en_fsettle (fsettle_any (addTo f i+f (i+1)) 0 hsm (Nat.zero_le _)) _)),rfl,rfl,rfl,(by kernel_rfl),rfl,fun _ _ FF8 MM8=>?_⟩)
  refine inb_n (tN ?_)
  refine rg_c FF8 MM8 [] 18 [] [] (⟨by omega,fun _ _ FF9 MM9=>?_⟩)
  have hd:=cnt_of (FF9.get 0 rfl)
  refine tN ⟨⟨i+1,by omega,FF9.pick [0,2,3,4,5,6],MM9.sub [1,2,3] rfl⟩,?_⟩
  rw [hc,hd];omega
 ·skip
  refine tN (.inr ⟨(FF6.ev 0 rfl).trans (dec_f hlt),?_⟩)
  obtain rfl:i=n-1:=by omega
  refine tN ?_
  refine wp_seq (rg_c FF6 MM6 [(0,b_ 0),(0,t_ (aG #[iW (fw0 (addTo f (n-1))),iW (fw1 (addTo f (n-1))),iW (fw2 (addTo f (n-1))),iW (fw3 (addTo f (n-1)))])),(0,b_ 1)] 18 [] [] (⟨rfl,rfl,(Eq.trans (show _=some (#[iW (fw0 (addTo f (n-1))),iW (fw1 (addTo f (n-1))),iW (fw2 (addTo f (n-1))),iW (fw3 (addTo f (n-1)))]:Array Value)by kernel_rfl) (congrArg some (Value.agg.inj rfl))),rfl,rfl,rfl,(by kernel_rfl),rfl,fun _ _ FF10 MM10=>tN ?_⟩))
  refine wp_ret ?_
  repeat first | refine tR ?_ | refine iR ?_
  exact(retc FF10 MM10 (k:=4) (i:=1) (j:=4) Tryz.results136 rfl rfl Tryz.underlying194 rfl (by kernel_rfl) rfl ⟨rfl,MM10.below1 2 rfl hb⟩)
set_option maxHeartbeats 1000000 in
theorem fMul_any (f:Nat→Nat)(n cap b:Nat)(cs:Array Value)(fr:Nat×Nat)(h2:2≤n)(hn:n≤1000)(hcap:n≤cap)(hf:∀j,j<n→f j<pN)(hp:∀j,j<n→PartAt cs (j*4) #[iW (fw0 (f j)),iW (fw1 (f j)),iW (fw2 (f j)),iW (fw3 (f j))])(w0:World)(hb:w0.heap[b]? = some (.cells cs 194 fr)) :
  Calls Tryz.prog 107 #[.slice (some ⟨b,0,none⟩) n cap] w0 fun e w'=>e=.returned (.agg #[iW (fw0 (mulTo f (n-1))),iW (fw1 (mulTo f (n-1))),iW (fw2 (mulTo f (n-1))),iW (fw3 (mulTo f (n-1)))])∧Below w0.heap.size w0 w':=by
 have MM:=MemS.start1 hb
 refine eF Tryz.func107 rfl Tryz.ntmps107 (by simp) fun ac (FF:Fr 28 ac [(0,.slice (some ⟨b,0,none⟩) n cap)])=>?_
 refine wp_seq (rg_c FF MM [] 3 [] [] (fun br=>fun _ _ FF1 MM1=>tN ?_))
 refine wp_seq ?_
 refine wp_seq (rg_c FF1 MM1 [(2,w_ 3)] 3 [8] [] (⟨by omega,fun _ _ FF2 MM2=>tN ?_⟩))
 refine wp_cond_false (FF2.ev 0 rfl) ?_
 refine wp_skip ?_
 refine tN ?_
 refine wp_seq (rg_c FF2 MM2 [(1,w_ 1),(1,l_ 1 (aG #[iW (fw0 (f 0)),iW (fw1 (f 0)),iW (fw2 (f 0)),iW (fw3 (f 0))])),(1,b_ 0)] 4 [] [] (⟨by omega,rfl,(hp 0 (by omega)),rfl,fun bo=>⟨rfl,rfl,rfl,(by kernel_rfl),rfl,fun _ _ FF3 MM3=>tN ?_⟩⟩))
 have MMr9:MemS _ _ _ [(bo,oC #[iW (fw0 (mulTo f 0)),iW (fw1 (mulTo f 0)),iW (fw2 (mulTo f 0)),iW (fw3 (mulTo f 0))] 192),_,_] _:=MM3
 refine wp_seq ?_
 refine wp_seq (rg_c FF3 MMr9 [] 18 [] [14] (⟨by omega,by omega,by omega,fun _ _ FF4 MM4=>tN ?_⟩))
 refine wp_for (fun a' w'=>∃i:Nat,i≤n-1∧Fr 28 a' [(17,iN i),(16,iN (n-1)),(15,.slice (some ⟨b,4,none⟩) (n-1) (cap-1)),(3,pT bo),(2,pT br),(0,.slice (some ⟨b,0,none⟩) n cap)]∧MemS (fun k=>k<w0.heap.size∧k≠b) w0 w' [(bo,oC #[iW (fw0 (mulTo f i)),iW (fw1 (mulTo f i)),iW (fw2 (mulTo f i)),iW (fw3 (mulTo f i))] 192),(br,oC #[iW 0,iW 0,iW 0,iW 0] 194),(b,.cells cs 194 fr)] []) (fun a' _=>(n-1-cnt 17 a').toNat) ⟨0,Nat.zero_le _,FF4.pick [0,1,2,3,4,5],MM4⟩ ?_
 rintro ac5 wd5 ⟨i,hi,FF5,MM5⟩
 have hc:=cnt_of (FF5.get 0 rfl)
 refine rg_c FF5 MM5 [] 19 [] [] (fun _ _ FF6 MM6=>?_)
 by_cases hlt:i<(n-1)
 ·skip
  refine tN (.inl ⟨(FF6.ev 0 rfl).trans (dec_t hlt),?_⟩)
  have hpi:=hp (i+1) (by omega)
  rw [show(i+1)*4=4+i*4 by omega]at hpi
  have hv:=mulTo_lt hf i (by omega)
  have hfi:=hf (i+1) (by omega)
  refine wp_seq (rg_c FF6 MM6 [(1,l_ 2 (aG #[iW (fw0 (f (i+1))),iW (fw1 (f (i+1))),iW (fw2 (f (i+1))),iW (fw3 (f (i+1)))])),(1,b_ 0)] 18 [] [] (⟨by omega,rfl,hpi,rfl,fun be=>⟨rfl,rfl,rfl,(by kernel_rfl),rfl,fun _ _ FF7 MM7=>tN ?_⟩⟩))
  refine rg_c FF7 MM7 [(0,b_ 1),(1,l_ 0 (aG #[iW (fw0 (f (i+1))),iW (fw1 (f (i+1))),iW (fw2 (f (i+1))),iW (fw3 (f (i+1)))])),(0,t_ (aG #[iW (fw0 ((mulTo f i)*(f (i+1))%pN)),iW (fw1 ((mulTo f i)*(f (i+1))%pN)),iW (fw2 ((mulTo f i)*(f (i+1))%pN)),iW (fw3 ((mulTo f i)*(f (i+1))%pN))])),(0,b_ 1)] 18 [] [] (⟨rfl,rfl,rfl,(pW _),rfl,(cP en_fprod (fprod_any (mulTo f i) (f (i+1)) (Nat.lt_trans hv pN_top) (Nat.lt_trans hfi pN_top)) _),rfl,rfl,rfl,(by kernel_rfl),rfl,fun _ _ FF8 MM8=>?_⟩)
  have MMr25:MemS _ _ _ [_,(bo,oC #[iW (fw0 (mulTo f (i+1))),iW (fw1 (mulTo f (i+1))),iW (fw2 (mulTo f (i+1))),iW (fw3 (mulTo f (i+1)))] 192),_,_] _:=MM8
  refine inb_n (tN ?_)
  refine rg_c FF8 MMr25 [] 18 [] [] (⟨by omega,fun _ _ FF9 MM9=>?_⟩)
  have hd:=cnt_of (FF9.get 0 rfl)
  refine tN ⟨⟨i+1,by omega,FF9.pick [0,2,3,4,5,6],MM9.sub [1,2,3] rfl⟩,?_⟩
  rw [hc,hd];omega
 ·skip
  refine tN (.inr ⟨(FF6.ev 0 rfl).trans (dec_f hlt),?_⟩)
  obtain rfl:i=n-1:=by omega
  refine tN ?_
  refine wp_seq (rg_c FF6 MM6 [(0,b_ 0),(0,t_ (aG #[iW (fw0 (mulTo f (n-1))),iW (fw1 (mulTo f (n-1))),iW (fw2 (mulTo f (n-1))),iW (fw3 (mulTo f (n-1)))])),(0,b_ 1)] 18 [] [] (⟨rfl,rfl,(Eq.trans (show _=some (#[iW (fw0 (mulTo f (n-1))),iW (fw1 (mulTo f (n-1))),iW (fw2 (mulTo f (n-1))),iW (fw3 (mulTo f (n-1)))]:Array Value)by kernel_rfl) (congrArg some (Value.agg.inj rfl))),rfl,rfl,rfl,(by kernel_rfl),rfl,fun _ _ FF10 MM10=>tN ?_⟩))
  refine wp_ret ?_
  repeat first | refine tR ?_ | refine iR ?_
  exact(retc FF10 MM10 (k:=4) (i:=1) (j:=4) Tryz.results107 rfl rfl Tryz.underlying194 rfl (by kernel_rfl) rfl ⟨rfl,MM10.below1 2 rfl hb⟩)
theorem en_cmul:Enters Tryz.prog 66:=fun args w=>by simp [go_sem]
theorem en_cscal:Enters Tryz.prog 102:=fun args w=>by simp [go_sem]
theorem en_cswap:Enters Tryz.prog 105:=fun args w=>by simp [go_sem]
theorem en_cstep:Enters Tryz.prog 106:=fun args w=>by simp [go_sem]
theorem en_cpub:Enters Tryz.prog 31:=fun args w=>by simp [go_sem]
theorem en_cshared:Enters Tryz.prog 60:=fun args w=>by simp [go_sem]
theorem part_lit {cs ps:Array Value}{off:Nat}(h:(cs.toList.drop off).take ps.size=ps.toList):PartAt cs off ps:=fun j v hv=>by
 rw [←Array.getElem?_toList,←h,List.getElem?_take]at hv
 split at hv
 ·rw [List.getElem?_drop,Array.getElem?_toList]at hv;exact hv
 ·cases hv
theorem cn_at {X:List Nat}{j a n:Nat}(hn:X.length=n)(hj:j<n)(h:X.getD j 0=a):(cn .u8 X)[j]? = some (iB a):=by
 rw [cn_get _ _ _ (by omega),h]
def scal (ks:List Nat):List Nat:=(ks.set 0 (ks.getD 0 0/8*8)).set 31 (ks.getD 31 0%64+64)
theorem scal_bytes {ks:List Nat}(h:KBytes ks):KBytes (scal ks):=by
 refine⟨(by unfold scal;rw [List.length_set,List.length_set];exact h.1),fun i=>?_⟩
 have h0:=h.2 0
 have hi:=h.2 i
 unfold scal
 rw [getD_set,getD_set]
 split
 ·omega
 ·split
  ·omega
  ·exact hi
theorem and_7:∀v:Fin 256,bits .andNot .u8 ((v.val:Nat):Int) 7=((v.val/8*8:Nat):Int):=by decide +kernel
theorem and_128:∀v:Fin 256,bits .andNot .u8 ((v.val:Nat):Int) 128=((v.val%128:Nat):Int):=by decide +kernel
theorem or_64:∀v:Fin 128,v.val ||| 64=v.val%64+64:=by decide +kernel
theorem scal_eq (ks:List Nat):((ks.set 0 (ks.getD 0 0/8*8)).set 31 (ks.getD 31 0%128)).set 31 (ks.getD 31 0%128%64+64)=scal ks:=by
 rw [List.set_set,scal,show ks.getD 31 0%128%64=ks.getD 31 0%64 by omega]
theorem set0_31 (ks:List Nat)(a:Nat):(ks.set 0 a).getD 31 0=ks.getD 31 0:=by rw [getD_set,if_neg (fun h=>absurd h.1 (by decide))]
theorem set31_31 {ks:List Nat}(h:ks.length=32)(a b:Nat):((ks.set 0 a).set 31 b).getD 31 0=b:=by rw [getD_set,if_pos ⟨rfl,by rw [List.length_set,h];decide⟩]
def two (x y:Nat)(j:Nat):Nat:=if j=0 then x else y
def thr (x y z:Nat)(j:Nat):Nat:=if j=0 then x else if j=1 then y else z
theorem two_lt {x y:Nat}(hx:x<pN)(hy:y<pN)(j:Nat)(_:j<2):two x y j<pN:=by unfold two;split <;> assumption
theorem thr_lt {x y z:Nat}(hx:x<pN)(hy:y<pN)(hz:z<pN)(j:Nat)(_:j<3):thr x y z j<pN:=by
 unfold thr;split
 ·assumption
 ·split <;> assumption
def aN (x y:Nat):Nat:=(x+y)%pN
def sN (x y:Nat):Nat:=(x+(pN-y))%pN
def mN (x y:Nat):Nat:=x*y%pN
structure Lad where
 x2:Nat
 z2:Nat
 x3:Nat
 z3:Nat
def Lad.ok (l:Lad):Prop:=l.x2<pN∧l.z2<pN∧l.x3<pN∧l.z3<pN
def lA (l:Lad):Nat:=aN l.x2 l.z2
def lB (l:Lad):Nat:=sN l.x2 l.z2
def lAA (l:Lad):Nat:=mN (lA l) (lA l)
def lBB (l:Lad):Nat:=mN (lB l) (lB l)
def lE (l:Lad):Nat:=sN (lAA l) (lBB l)
def lDA (l:Lad):Nat:=mN (sN l.x3 l.z3) (lA l)
def lCB (l:Lad):Nat:=mN (aN l.x3 l.z3) (lB l)
def lS (l:Lad):Nat:=aN (lDA l) (lCB l)
def lL (l:Lad):Nat:=sN (lDA l) (lCB l)
def Lad.step (u:Nat)(l:Lad):Lad:=⟨mN (lAA l) (lBB l),mN (lE l) (aN (lAA l) (mN 121665 (lE l))),mN (lS l) (lS l),mN (mN u (lL l)) (lL l)⟩
def Lad.swap (n:Nat)(l:Lad):Lad:=if n=1 then⟨l.x3,l.z3,l.x2,l.z2⟩else l
def bitAt (ks:List Nat)(i:Nat):Nat:=ks.getD (i/8) 0/2^(i%8)%2
def ladTo (ks:List Nat)(u:Nat):Nat→Lad
 | 0=>⟨1,0,u,1⟩
 | j+1=>(((ladTo ks u j).swap (bitAt ks (254-j))).step u).swap (bitAt ks (254-j))
def curveN (ks us:List Nat):Nat:=mN (ladTo (scal ks) (numOf us%pN) 255).x2 (invTo (ladTo (scal ks) (numOf us%pN) 255).z2 255)
theorem mN_lt (x y:Nat):mN x y<pN:=Nat.mod_lt _ (by decide)
theorem aN_lt (x y:Nat):aN x y<pN:=Nat.mod_lt _ (by decide)
theorem sN_lt (x y:Nat):sN x y<pN:=Nat.mod_lt _ (by decide)
theorem step_ok (u:Nat)(l:Lad):(l.step u).ok:=⟨mN_lt _ _,mN_lt _ _,mN_lt _ _,mN_lt _ _⟩
theorem swap_ok {n:Nat}{l:Lad}(h:l.ok):(l.swap n).ok:=by
 unfold Lad.swap
 split
 ·exact⟨h.2.2.1,h.2.2.2,h.1,h.2.1⟩
 ·exact h
theorem ladTo_ok (ks:List Nat)(u:Nat)(hu:u<pN):∀j,(ladTo ks u j).ok
 | 0=>⟨(by decide:1<pN),(by decide:0<pN),hu,(by decide:1<pN)⟩
 | _+1=>swap_ok (step_ok _ _)
theorem bitAt_le (ks:List Nat)(i:Nat):bitAt ks i≤1:=by unfold bitAt;omega
theorem fadd2_part (x y:Nat):∀j,j<2→PartAt #[iW (fw0 x),iW (fw1 x),iW (fw2 x),iW (fw3 x),iW (fw0 y),iW (fw1 y),iW (fw2 y),iW (fw3 y)] (j*4) #[iW (fw0 (two x y j)),iW (fw1 (two x y j)),iW (fw2 (two x y j)),iW (fw3 (two x y j))]:=fun j hj k v hv=>by
 have hk:k=0∨k=1∨k=2∨k=3∨4≤k:=by omega
 have hj':j=0∨j=1:=by omega
 rcases hj' with rfl | rfl <;> rcases hk with rfl | rfl | rfl | rfl | hk <;> first | exact hv | (rw [Array.getElem?_eq_none (by simpa using hk)]at hv;cases hv)
theorem fadd2 (x y r b:Nat)(fr:Nat×Nat)(hx:x<pN)(hy:y<pN)(hr:aN x y=r)(w:World)(hb:w.heap[b]? = some (.cells #[iW (fw0 x),iW (fw1 x),iW (fw2 x),iW (fw3 x),iW (fw0 y),iW (fw1 y),iW (fw2 y),iW (fw3 y)] 194 fr)) :
  Calls Tryz.prog 136 #[.slice (some ⟨b,0,none⟩) 2 2] w fun e w'=>e=.returned (.agg #[iW (fw0 r),iW (fw1 r),iW (fw2 r),iW (fw3 r)])∧Below w.heap.size w w':=by
 subst hr
 exact fAdd_any (two x y) 2 2 b _ fr (by decide) (by decide) (Nat.le_refl _) (two_lt hx hy) (fadd2_part x y) w hb
theorem fmul2_part (x y:Nat):∀j,j<2→PartAt #[iW (fw0 x),iW (fw1 x),iW (fw2 x),iW (fw3 x),iW (fw0 y),iW (fw1 y),iW (fw2 y),iW (fw3 y)] (j*4) #[iW (fw0 (two x y j)),iW (fw1 (two x y j)),iW (fw2 (two x y j)),iW (fw3 (two x y j))]:=fun j hj k v hv=>by
 have hk:k=0∨k=1∨k=2∨k=3∨4≤k:=by omega
 have hj':j=0∨j=1:=by omega
 rcases hj' with rfl | rfl <;> rcases hk with rfl | rfl | rfl | rfl | hk <;> first | exact hv | (rw [Array.getElem?_eq_none (by simpa using hk)]at hv;cases hv)
theorem fmul2 (x y r b:Nat)(fr:Nat×Nat)(hx:x<pN)(hy:y<pN)(hr:mN x y=r)(w:World)(hb:w.heap[b]? = some (.cells #[iW (fw0 x),iW (fw1 x),iW (fw2 x),iW (fw3 x),iW (fw0 y),iW (fw1 y),iW (fw2 y),iW (fw3 y)] 194 fr)) :
  Calls Tryz.prog 107 #[.slice (some ⟨b,0,none⟩) 2 2] w fun e w'=>e=.returned (.agg #[iW (fw0 r),iW (fw1 r),iW (fw2 r),iW (fw3 r)])∧Below w.heap.size w w':=by
 subst hr
 exact fMul_any (two x y) 2 2 b _ fr (by decide) (by decide) (Nat.le_refl _) (two_lt hx hy) (fmul2_part x y) w hb
theorem fmul3_part (x y z:Nat):∀j,j<3→PartAt #[iW (fw0 x),iW (fw1 x),iW (fw2 x),iW (fw3 x),iW (fw0 y),iW (fw1 y),iW (fw2 y),iW (fw3 y),iW (fw0 z),iW (fw1 z),iW (fw2 z),iW (fw3 z)] (j*4) #[iW (fw0 (thr x y z j)),iW (fw1 (thr x y z j)),iW (fw2 (thr x y z j)),iW (fw3 (thr x y z j))]:=fun j hj k v hv=>by
 have hk:k=0∨k=1∨k=2∨k=3∨4≤k:=by omega
 have hj':j=0∨j=1∨j=2:=by omega
 rcases hj' with rfl | rfl | rfl <;> rcases hk with rfl | rfl | rfl | rfl | hk <;> first | exact hv | (rw [Array.getElem?_eq_none (by simpa using hk)]at hv;cases hv)
theorem fmul3 (x y z r b:Nat)(fr:Nat×Nat)(hx:x<pN)(hy:y<pN)(hz:z<pN)(hr:mN (mN x y) z=r)(w:World)(hb:w.heap[b]? = some (.cells #[iW (fw0 x),iW (fw1 x),iW (fw2 x),iW (fw3 x),iW (fw0 y),iW (fw1 y),iW (fw2 y),iW (fw3 y),iW (fw0 z),iW (fw1 z),iW (fw2 z),iW (fw3 z)] 194 fr)) :
  Calls Tryz.prog 107 #[.slice (some ⟨b,0,none⟩) 3 3] w fun e w'=>e=.returned (.agg #[iW (fw0 r),iW (fw1 r),iW (fw2 r),iW (fw3 r)])∧Below w.heap.size w w':=by
 subst hr
 exact fMul_any (thr x y z) 3 3 b _ fr (by decide) (by decide) (Nat.le_refl _) (thr_lt hx hy hz) (fmul3_part x y z) w hb
theorem fsub2 (x y r:Nat)(hx:x<pN)(hy:y<pN)(hr:sN x y=r)(w:World):Calls Tryz.prog 137 #[.agg #[iW (fw0 x),iW (fw1 x),iW (fw2 x),iW (fw3 x)],.agg #[iW (fw0 y),iW (fw1 y),iW (fw2 y),iW (fw3 y)]] w fun e w'=>e=.returned (.agg #[iW (fw0 r),iW (fw1 r),iW (fw2 r),iW (fw3 r)])∧Below w.heap.size w w':=by
 subst hr
 exact fSub_any x y hx hy w
theorem cscal_any (ks:List Nat)(hk:KBytes ks)(w0:World) :
  Calls Tryz.prog 102 #[.agg (cn .u8 ks)] w0 fun e w'=>e=.returned (.agg (cn .u8 (scal ks)))∧Below w0.heap.size w0 w':=by
 refine eF Tryz.func102 rfl Tryz.ntmps102 (by simp) fun ac (FF:Fr 16 ac [(0,.agg (cn .u8 ks))])=>?_
 have MM:=MemS.start w0
 have h0:=hk.2 0
 have h31:=hk.2 31
 refine wp_seq (rg_c FF MM [(0,s_ 0 (.cells (cn .u8 ks) 52)),(0,s_ 0 (.cells (cn .u8 (List.replicate 32 0)) 52))] 3 [] [0] (⟨(by kernel_rfl),fun bk=>⟨(by kernel_rfl),fun br=>fun _ _ FF1 MM1=>tN ?_⟩⟩))
 refine wp_seq (rg_c FF1 MM1 [(0,w_ 1),(0,l_ 1 (iB (ks.getD 0 0))),(0,f_ (iB (ks.getD 0 0/8*8))),(0,w_ 1),(0,s_ 1 (.cells (cn .u8 (ks.set 0 (ks.getD 0 0/8*8))) 52))] 3 [] [] (⟨by decide,rfl,(cn_get _ _ _ (by rw [hk.1];decide)),(andNot_ok (t:=5) (t':=5) (x:=(.tmp 4)) (y:=(.const (iB 7))) (k:=.u8) (a:=ks.getD 0 0) (b:=7) (r:=ks.getD 0 0/8*8) (by kernel_rfl) rfl rfl (and_7 ⟨ks.getD 0 0,h0⟩)),by decide,rfl,(by rw [cZ,hk.1];decide),(.inl rfl),(cn_set _ _ _ _),fun _ _ FF2 MM2=>tN ?_⟩))
 have e2:=set0_31 ks (ks.getD 0 0/8*8)
 refine wp_seq (rg_c FF2 MM2 [(0,w_ 1),(0,l_ 1 (iB (ks.getD 31 0))),(0,f_ (iB (ks.getD 31 0%128))),(0,w_ 1),(0,s_ 1 (.cells (cn .u8 ((ks.set 0 (ks.getD 0 0/8*8)).set 31 (ks.getD 31 0%128))) 52))] 3 [] [] (⟨by decide,rfl,(cn_at (by rw [List.length_set,hk.1]) (by decide) e2),(andNot_ok (t:=5) (t':=5) (x:=(.tmp 8)) (y:=(.const (iB 128))) (k:=.u8) (a:=ks.getD 31 0) (b:=128) (r:=ks.getD 31 0%128) (by kernel_rfl) rfl rfl (and_128 ⟨ks.getD 31 0,h31⟩)),by decide,rfl,(by rw [cZ,(len_set hk.1)];decide),(.inl rfl),(cn_set _ _ _ _),fun _ _ FF3 MM3=>tN ?_⟩))
 have e3:=set31_31 hk.1 (ks.getD 0 0/8*8) (ks.getD 31 0%128)
 refine wp_seq (rg_c FF3 MM3 [(0,w_ 1),(0,l_ 1 (iB (ks.getD 31 0%128))),(0,t_ (iB (ks.getD 31 0%128%64+64))),(0,w_ 1),(0,s_ 1 (.cells (cn .u8 (((ks.set 0 (ks.getD 0 0/8*8)).set 31 (ks.getD 31 0%128)).set 31 (ks.getD 31 0%128%64+64))) 52))] 3 [] [] (⟨by decide,rfl,(cn_at (by rw [List.length_set,List.length_set,hk.1]) (by decide) e3),by omega,by decide,(vI (or_64 ⟨ks.getD 31 0%128,by omega⟩)),by decide,rfl,(by rw [cZ,(len_set (len_set hk.1))];decide),(.inl rfl),(cn_set _ _ _ _),fun _ _ FF4 MM4=>tN ?_⟩))
 refine wp_seq (rg_c FF4 MM4 [(0,b_ 1),(0,b_ 0)] 3 [] [] (⟨rfl,((cZ _ _).trans (len_set (len_set (len_set hk.1)))),rfl,((cZ _ _).trans (List.length_replicate ..)),((cZ _ _).trans (len_set (len_set (len_set hk.1)))),(cn_one _ _),rfl,fun _ _ FF5 MM5=>tN ?_⟩))
 refine wp_ret ?_
 repeat first | refine tR ?_ | refine iR ?_
 exact(retc FF5 MM5 (k:=32) (i:=0) (j:=0) Tryz.results102 rfl rfl Tryz.underlying52 rfl (by kernel_rfl) ((cZ _ _).trans (len_set (len_set (len_set hk.1)))) ⟨by rw [scal_eq],MM5.below⟩)
theorem cswap_0 (a b c d:Nat)(w0:World) :
  Calls Tryz.prog 105 #[aG #[iW (fw0 a),iW (fw1 a),iW (fw2 a),iW (fw3 a),iW (fw0 b),iW (fw1 b),iW (fw2 b),iW (fw3 b),iW (fw0 c),iW (fw1 c),iW (fw2 c),iW (fw3 c),iW (fw0 d),iW (fw1 d),iW (fw2 d),iW (fw3 d)],iN 0] w0 fun e w'=>e=.returned (aG #[iW (fw0 a),iW (fw1 a),iW (fw2 a),iW (fw3 a),iW (fw0 b),iW (fw1 b),iW (fw2 b),iW (fw3 b),iW (fw0 c),iW (fw1 c),iW (fw2 c),iW (fw3 c),iW (fw0 d),iW (fw1 d),iW (fw2 d),iW (fw3 d)])∧Below w0.heap.size w0 w':=by
 refine eF Tryz.func105 rfl Tryz.ntmps105 (by simp) fun ac (FF:Fr 30 ac [(0,aG #[iW (fw0 a),iW (fw1 a),iW (fw2 a),iW (fw3 a),iW (fw0 b),iW (fw1 b),iW (fw2 b),iW (fw3 b),iW (fw0 c),iW (fw1 c),iW (fw2 c),iW (fw3 c),iW (fw0 d),iW (fw1 d),iW (fw2 d),iW (fw3 d)]),(1,iN 0)])=>?_
 have MM:=MemS.start w0
 refine wp_seq (rg_c FF MM [] 5 [] [0] (fun bl=>fun br=>fun _ _ FF1 MM1=>tN ?_))
 refine wp_seq (rg_dc 25 FF1 MM1 [(2,l_ 1 (aG #[iW (fw0 a),iW (fw1 a),iW (fw2 a),iW (fw3 a)])),(1,l_ 1 (aG #[iW (fw0 c),iW (fw1 c),iW (fw2 c),iW (fw3 c)])),(0,t_ (aG #[iW (fw0 a),iW (fw1 a),iW (fw2 a),iW (fw3 a)])),(2,l_ 1 (aG #[iW (fw0 b),iW (fw1 b),iW (fw2 b),iW (fw3 b)])),(1,l_ 1 (aG #[iW (fw0 d),iW (fw1 d),iW (fw2 d),iW (fw3 d)])),(0,t_ (aG #[iW (fw0 b),iW (fw1 b),iW (fw2 b),iW (fw3 b)])),(2,l_ 1 (aG #[iW (fw0 c),iW (fw1 c),iW (fw2 c),iW (fw3 c)])),(1,l_ 1 (aG #[iW (fw0 a),iW (fw1 a),iW (fw2 a),iW (fw3 a)])),(0,t_ (aG #[iW (fw0 c),iW (fw1 c),iW (fw2 c),iW (fw3 c)])),(2,l_ 1 (aG #[iW (fw0 d),iW (fw1 d),iW (fw2 d),iW (fw3 d)])),(1,l_ 1 (aG #[iW (fw0 b),iW (fw1 b),iW (fw2 b),iW (fw3 b)])),(0,t_ (aG #[iW (fw0 d),iW (fw1 d),iW (fw2 d),iW (fw3 d)])),(0,t_ (aG #[iW (fw0 a),iW (fw1 a),iW (fw2 a),iW (fw3 a),iW (fw0 b),iW (fw1 b),iW (fw2 b),iW (fw3 b),iW (fw0 c),iW (fw1 c),iW (fw2 c),iW (fw3 c),iW (fw0 d),iW (fw1 d),iW (fw2 d),iW (fw3 d)]))] [(0,b_ 0)] 0 [4] [] (⟨rfl,(part_lit rfl),rfl,rfl,(part_lit rfl),rfl,(cP en_fPick (fPick_0 a c) _),rfl,(part_lit rfl),rfl,rfl,(part_lit rfl),rfl,(cP en_fPick (fPick_0 b d) _),rfl,(part_lit rfl),rfl,rfl,(part_lit rfl),rfl,(cP en_fPick (fPick_0 c a) _),rfl,(part_lit rfl),rfl,rfl,(part_lit rfl),rfl,(cP en_fPick (fPick_0 d b) _),(by kernel_rfl),rfl,rfl,rfl,(by kernel_rfl),rfl,fun _ _ FF2 MM2=>tN ?_⟩))
 refine wp_ret ?_
 repeat first | refine tR ?_ | refine iR ?_
 exact(retc FF2 MM2 (k:=16) (i:=0) (j:=0) Tryz.results105 rfl rfl Tryz.underlying198 rfl (by kernel_rfl) rfl ⟨rfl,MM2.below⟩)
theorem cswap_1 (a b c d:Nat)(w0:World) :
  Calls Tryz.prog 105 #[aG #[iW (fw0 a),iW (fw1 a),iW (fw2 a),iW (fw3 a),iW (fw0 b),iW (fw1 b),iW (fw2 b),iW (fw3 b),iW (fw0 c),iW (fw1 c),iW (fw2 c),iW (fw3 c),iW (fw0 d),iW (fw1 d),iW (fw2 d),iW (fw3 d)],iN 1] w0 fun e w'=>e=.returned (aG #[iW (fw0 c),iW (fw1 c),iW (fw2 c),iW (fw3 c),iW (fw0 d),iW (fw1 d),iW (fw2 d),iW (fw3 d),iW (fw0 a),iW (fw1 a),iW (fw2 a),iW (fw3 a),iW (fw0 b),iW (fw1 b),iW (fw2 b),iW (fw3 b)])∧Below w0.heap.size w0 w':=by
 refine eF Tryz.func105 rfl Tryz.ntmps105 (by simp) fun ac (FF:Fr 30 ac [(0,aG #[iW (fw0 a),iW (fw1 a),iW (fw2 a),iW (fw3 a),iW (fw0 b),iW (fw1 b),iW (fw2 b),iW (fw3 b),iW (fw0 c),iW (fw1 c),iW (fw2 c),iW (fw3 c),iW (fw0 d),iW (fw1 d),iW (fw2 d),iW (fw3 d)]),(1,iN 1)])=>?_
 have MM:=MemS.start w0
 refine wp_seq (rg_c FF MM [] 5 [] [0] (fun bl=>fun br=>fun _ _ FF1 MM1=>tN ?_))
 refine wp_seq (rg_dc 25 FF1 MM1 [(2,l_ 1 (aG #[iW (fw0 a),iW (fw1 a),iW (fw2 a),iW (fw3 a)])),(1,l_ 1 (aG #[iW (fw0 c),iW (fw1 c),iW (fw2 c),iW (fw3 c)])),(0,t_ (aG #[iW (fw0 c),iW (fw1 c),iW (fw2 c),iW (fw3 c)])),(2,l_ 1 (aG #[iW (fw0 b),iW (fw1 b),iW (fw2 b),iW (fw3 b)])),(1,l_ 1 (aG #[iW (fw0 d),iW (fw1 d),iW (fw2 d),iW (fw3 d)])),(0,t_ (aG #[iW (fw0 d),iW (fw1 d),iW (fw2 d),iW (fw3 d)])),(2,l_ 1 (aG #[iW (fw0 c),iW (fw1 c),iW (fw2 c),iW (fw3 c)])),(1,l_ 1 (aG #[iW (fw0 a),iW (fw1 a),iW (fw2 a),iW (fw3 a)])),(0,t_ (aG #[iW (fw0 a),iW (fw1 a),iW (fw2 a),iW (fw3 a)])),(2,l_ 1 (aG #[iW (fw0 d),iW (fw1 d),iW (fw2 d),iW (fw3 d)])),(1,l_ 1 (aG #[iW (fw0 b),iW (fw1 b),iW (fw2 b),iW (fw3 b)])),(0,t_ (aG #[iW (fw0 b),iW (fw1 b),iW (fw2 b),iW (fw3 b)])),(0,t_ (aG #[iW (fw0 c),iW (fw1 c),iW (fw2 c),iW (fw3 c),iW (fw0 d),iW (fw1 d),iW (fw2 d),iW (fw3 d),iW (fw0 a),iW (fw1 a),iW (fw2 a),iW (fw3 a),iW (fw0 b),iW (fw1 b),iW (fw2 b),iW (fw3 b)]))] [(0,b_ 0)] 0 [4] [] (⟨rfl,(part_lit rfl),rfl,rfl,(part_lit rfl),rfl,(cP en_fPick (fPick_1 a c) _),rfl,(part_lit rfl),rfl,rfl,(part_lit rfl),rfl,(cP en_fPick (fPick_1 b d) _),rfl,(part_lit rfl),rfl,rfl,(part_lit rfl),rfl,(cP en_fPick (fPick_1 c a) _),rfl,(part_lit rfl),rfl,rfl,(part_lit rfl),rfl,(cP en_fPick (fPick_1 d b) _),(by kernel_rfl),rfl,rfl,rfl,(by kernel_rfl),rfl,fun _ _ FF2 MM2=>tN ?_⟩))
 refine wp_ret ?_
 repeat first | refine tR ?_ | refine iR ?_
 exact(retc FF2 MM2 (k:=16) (i:=0) (j:=0) Tryz.results105 rfl rfl Tryz.underlying198 rfl (by kernel_rfl) rfl ⟨rfl,MM2.below⟩)
theorem cswap_any (l:Lad)(n:Nat)(hn:n≤1)(w:World):Calls Tryz.prog 105 #[aG #[iW (fw0 l.x2),iW (fw1 l.x2),iW (fw2 l.x2),iW (fw3 l.x2),iW (fw0 l.z2),iW (fw1 l.z2),iW (fw2 l.z2),iW (fw3 l.z2),iW (fw0 l.x3),iW (fw1 l.x3),iW (fw2 l.x3),iW (fw3 l.x3),iW (fw0 l.z3),iW (fw1 l.z3),iW (fw2 l.z3),iW (fw3 l.z3)],iN n] w fun e w'=>e=.returned (aG #[iW (fw0 (((l.swap n)).x2)),iW (fw1 (((l.swap n)).x2)),iW (fw2 (((l.swap n)).x2)),iW (fw3 (((l.swap n)).x2)),iW (fw0 (((l.swap n)).z2)),iW (fw1 (((l.swap n)).z2)),iW (fw2 (((l.swap n)).z2)),iW (fw3 (((l.swap n)).z2)),iW (fw0 (((l.swap n)).x3)),iW (fw1 (((l.swap n)).x3)),iW (fw2 (((l.swap n)).x3)),iW (fw3 (((l.swap n)).x3)),iW (fw0 (((l.swap n)).z3)),iW (fw1 (((l.swap n)).z3)),iW (fw2 (((l.swap n)).z3)),iW (fw3 (((l.swap n)).z3))])∧Below w.heap.size w w':=by
 obtain rfl | rfl:n=0∨n=1:=by omega
 ·exact cswap_0 l.x2 l.z2 l.x3 l.z3 w
 ·exact cswap_1 l.x2 l.z2 l.x3 l.z3 w
set_option maxHeartbeats 2000000 in
theorem cstep_any (u:Nat)(l:Lad)(hu:u<pN)(hl:l.ok)(w0:World) :
  Calls Tryz.prog 106 #[aG #[iW (fw0 l.x2),iW (fw1 l.x2),iW (fw2 l.x2),iW (fw3 l.x2),iW (fw0 l.z2),iW (fw1 l.z2),iW (fw2 l.z2),iW (fw3 l.z2),iW (fw0 l.x3),iW (fw1 l.x3),iW (fw2 l.x3),iW (fw3 l.x3),iW (fw0 l.z3),iW (fw1 l.z3),iW (fw2 l.z3),iW (fw3 l.z3)],.agg #[iW (fw0 u),iW (fw1 u),iW (fw2 u),iW (fw3 u)]] w0 fun e w'=>e=.returned (aG #[iW (fw0 (((l.step u)).x2)),iW (fw1 (((l.step u)).x2)),iW (fw2 (((l.step u)).x2)),iW (fw3 (((l.step u)).x2)),iW (fw0 (((l.step u)).z2)),iW (fw1 (((l.step u)).z2)),iW (fw2 (((l.step u)).z2)),iW (fw3 (((l.step u)).z2)),iW (fw0 (((l.step u)).x3)),iW (fw1 (((l.step u)).x3)),iW (fw2 (((l.step u)).x3)),iW (fw3 (((l.step u)).x3)),iW (fw0 (((l.step u)).z3)),iW (fw1 (((l.step u)).z3)),iW (fw2 (((l.step u)).z3)),iW (fw3 (((l.step u)).z3))])∧Below w0.heap.size w0 w':=by
 refine eF Tryz.func106 rfl Tryz.ntmps106 (by simp) fun ac (FF:Fr 84 ac [(0,aG #[iW (fw0 l.x2),iW (fw1 l.x2),iW (fw2 l.x2),iW (fw3 l.x2),iW (fw0 l.z2),iW (fw1 l.z2),iW (fw2 l.z2),iW (fw3 l.z2),iW (fw0 l.x3),iW (fw1 l.x3),iW (fw2 l.x3),iW (fw3 l.x3),iW (fw0 l.z3),iW (fw1 l.z3),iW (fw2 l.z3),iW (fw3 l.z3)]),(1,aG #[iW (fw0 u),iW (fw1 u),iW (fw2 u),iW (fw3 u)])])=>?_
 have MM:=MemS.start w0
 refine wp_seq (rg_c FF MM [] 5 [] [0,1] (fun bl=>fun bu=>fun br=>fun _ _ FF1 MM1=>tN ?_))
 refine wp_seq (rg_draw FF1 MM1 [.inl (pT bl),.inl (aG #[iW (fw0 l.x2),iW (fw1 l.x2),iW (fw2 l.x2),iW (fw3 l.x2)]),.inl (.pointer (some ⟨bl,4,none⟩)),.inl (aG #[iW (fw0 l.z2),iW (fw1 l.z2),iW (fw2 l.z2),iW (fw3 l.z2)]),.inr (oC #[iW (fw0 l.x2),iW (fw1 l.x2),iW (fw2 l.x2),iW (fw3 l.x2),iW (fw0 l.z2),iW (fw1 l.z2),iW (fw2 l.z2),iW (fw3 l.z2)] 194,fun b=>.slice (some ⟨b,0,none⟩) 2 2),.inl (aG #[iW (fw0 (lA l)),iW (fw1 (lA l)),iW (fw2 (lA l)),iW (fw3 (lA l))]),.inl (pT bl),.inl (aG #[iW (fw0 l.x2),iW (fw1 l.x2),iW (fw2 l.x2),iW (fw3 l.x2)]),.inl (.pointer (some ⟨bl,4,none⟩)),.inl (aG #[iW (fw0 l.z2),iW (fw1 l.z2),iW (fw2 l.z2),iW (fw3 l.z2)]),.inl (aG #[iW (fw0 (lB l)),iW (fw1 (lB l)),iW (fw2 (lB l)),iW (fw3 (lB l))]),.inr (oC #[iW 0,iW 0,iW 0,iW 0] 194,fun b=>pT b),.inr (oC #[iW 0,iW 0,iW 0,iW 0] 194,fun b=>pT b)] [11,12] [o_,l_ 2 (aG #[iW (fw0 l.x2),iW (fw1 l.x2),iW (fw2 l.x2),iW (fw3 l.x2)]),o_,l_ 2 (aG #[iW (fw0 l.z2),iW (fw1 l.z2),iW (fw2 l.z2),iW (fw3 l.z2)]),o_,u_ 1 (aG #[iW (fw0 (lA l)),iW (fw1 (lA l)),iW (fw2 (lA l)),iW (fw3 (lA l))]),o_,l_ 2 (aG #[iW (fw0 l.x2),iW (fw1 l.x2),iW (fw2 l.x2),iW (fw3 l.x2)]),o_,l_ 2 (aG #[iW (fw0 l.z2),iW (fw1 l.z2),iW (fw2 l.z2),iW (fw3 l.z2)]),t_ (aG #[iW (fw0 (lB l)),iW (fw1 (lB l)),iW (fw2 (lB l)),iW (fw3 (lB l))]),o_,o_] [b_ 0,b_ 1] [4,3,2,5,6] (fun nb=>[bl=bl,PartAt (#[iW (fw0 l.x2),iW (fw1 l.x2),iW (fw2 l.x2),iW (fw3 l.x2),iW (fw0 l.z2),iW (fw1 l.z2),iW (fw2 l.z2),iW (fw3 l.z2),iW (fw0 l.x3),iW (fw1 l.x3),iW (fw2 l.x3),iW (fw3 l.x3),iW (fw0 l.z3),iW (fw1 l.z3),iW (fw2 l.z3),iW (fw3 l.z3)]:Array Value) 0 (#[iW (fw0 l.x2),iW (fw1 l.x2),iW (fw2 l.x2),iW (fw3 l.x2)]:Array Value),(#[iW (fw0 l.x2),iW (fw1 l.x2),iW (fw2 l.x2),iW (fw3 l.x2)]:Array Value).size=4,bl=bl,PartAt (#[iW (fw0 l.x2),iW (fw1 l.x2),iW (fw2 l.x2),iW (fw3 l.x2),iW (fw0 l.z2),iW (fw1 l.z2),iW (fw2 l.z2),iW (fw3 l.z2),iW (fw0 l.x3),iW (fw1 l.x3),iW (fw2 l.x3),iW (fw3 l.x3),iW (fw0 l.z3),iW (fw1 l.z3),iW (fw2 l.z3),iW (fw3 l.z3)]:Array Value) 4 (#[iW (fw0 l.z2),iW (fw1 l.z2),iW (fw2 l.z2),iW (fw3 l.z2)]:Array Value),(#[iW (fw0 l.z2),iW (fw1 l.z2),iW (fw2 l.z2),iW (fw3 l.z2)]:Array Value).size=4,CallP Tryz.prog 136 [.slice (some ⟨(nb 4),0,none⟩) 2 2] [((nb 4),oC #[iW (fw0 l.x2),iW (fw1 l.x2),iW (fw2 l.x2),iW (fw3 l.x2),iW (fw0 l.z2),iW (fw1 l.z2),iW (fw2 l.z2),iW (fw3 l.z2)] 194),(br,oC #[iW 0,iW 0,iW 0,iW 0,iW 0,iW 0,iW 0,iW 0,iW 0,iW 0,iW 0,iW 0,iW 0,iW 0,iW 0,iW 0] 198),(bu,oC #[iW (fw0 u),iW (fw1 u),iW (fw2 u),iW (fw3 u)] 194),(bl,oC #[iW (fw0 l.x2),iW (fw1 l.x2),iW (fw2 l.x2),iW (fw3 l.x2),iW (fw0 l.z2),iW (fw1 l.z2),iW (fw2 l.z2),iW (fw3 l.z2),iW (fw0 l.x3),iW (fw1 l.x3),iW (fw2 l.x3),iW (fw3 l.x3),iW (fw0 l.z3),iW (fw1 l.z3),iW (fw2 l.z3),iW (fw3 l.z3)] 198)] (aG #[iW (fw0 (lA l)),iW (fw1 (lA l)),iW (fw2 (lA l)),iW (fw3 (lA l))]),bl=bl,PartAt (#[iW (fw0 l.x2),iW (fw1 l.x2),iW (fw2 l.x2),iW (fw3 l.x2),iW (fw0 l.z2),iW (fw1 l.z2),iW (fw2 l.z2),iW (fw3 l.z2),iW (fw0 l.x3),iW (fw1 l.x3),iW (fw2 l.x3),iW (fw3 l.x3),iW (fw0 l.z3),iW (fw1 l.z3),iW (fw2 l.z3),iW (fw3 l.z3)]:Array Value) 0 (#[iW (fw0 l.x2),iW (fw1 l.x2),iW (fw2 l.x2),iW (fw3 l.x2)]:Array Value),(#[iW (fw0 l.x2),iW (fw1 l.x2),iW (fw2 l.x2),iW (fw3 l.x2)]:Array Value).size=4,bl=bl,PartAt (#[iW (fw0 l.x2),iW (fw1 l.x2),iW (fw2 l.x2),iW (fw3 l.x2),iW (fw0 l.z2),iW (fw1 l.z2),iW (fw2 l.z2),iW (fw3 l.z2),iW (fw0 l.x3),iW (fw1 l.x3),iW (fw2 l.x3),iW (fw3 l.x3),iW (fw0 l.z3),iW (fw1 l.z3),iW (fw2 l.z3),iW (fw3 l.z3)]:Array Value) 4 (#[iW (fw0 l.z2),iW (fw1 l.z2),iW (fw2 l.z2),iW (fw3 l.z2)]:Array Value),(#[iW (fw0 l.z2),iW (fw1 l.z2),iW (fw2 l.z2),iW (fw3 l.z2)]:Array Value).size=4,CallP Tryz.prog 137 [aG #[iW (fw0 l.x2),iW (fw1 l.x2),iW (fw2 l.x2),iW (fw3 l.x2)],aG #[iW (fw0 l.z2),iW (fw1 l.z2),iW (fw2 l.z2),iW (fw3 l.z2)]] [] (aG #[iW (fw0 (lB l)),iW (fw1 (lB l)),iW (fw2 (lB l)),iW (fw3 (lB l))])]) (fun nb Kt=>(nb 11)=(nb 11)∧(#[iW 0,iW 0,iW 0,iW 0]:Array Value).size=4∧(#[iW (fw0 (lA l)),iW (fw1 (lA l)),iW (fw2 (lA l)),iW (fw3 (lA l))]:Array Value).size=4∧(#[iW (fw0 (lA l)),iW (fw1 (lA l)),iW (fw2 (lA l)),iW (fw3 (lA l))]:Array Value).all (·.oneCell')=true∧(0,0).2=0∧(nb 12)=(nb 12)∧(#[iW 0,iW 0,iW 0,iW 0]:Array Value).size=4∧(#[iW (fw0 (lB l)),iW (fw1 (lB l)),iW (fw2 (lB l)),iW (fw3 (lB l))]:Array Value).size=4∧(#[iW (fw0 (lB l)),iW (fw1 (lB l)),iW (fw2 (lB l)),iW (fw3 (lB l))]:Array Value).all (·.oneCell')=true∧(0,0).2=0∧Kt [(6,pT (nb 12)),(5,pT (nb 11)),(4,pT br),(3,pT bu),(2,pT bl)] [((nb 11),oC #[iW (fw0 (lA l)),iW (fw1 (lA l)),iW (fw2 (lA l)),iW (fw3 (lA l))] 194),((nb 12),oC #[iW (fw0 (lB l)),iW (fw1 (lB l)),iW (fw2 (lB l)),iW (fw3 (lB l))] 194),(br,oC #[iW 0,iW 0,iW 0,iW 0,iW 0,iW 0,iW 0,iW 0,iW 0,iW 0,iW 0,iW 0,iW 0,iW 0,iW 0,iW 0] 198),(bu,oC #[iW (fw0 u),iW (fw1 u),iW (fw2 u),iW (fw3 u)] 194),(bl,oC #[iW (fw0 l.x2),iW (fw1 l.x2),iW (fw2 l.x2),iW (fw3 l.x2),iW (fw0 l.z2),iW (fw1 l.z2),iW (fw2 l.z2),iW (fw3 l.z2),iW (fw0 l.x3),iW (fw1 l.x3),iW (fw2 l.x3),iW (fw3 l.x3),iW (fw0 l.z3),iW (fw1 l.z3),iW (fw2 l.z3),iW (fw3 l.z3)] 198)]) (by kernel_rfl) (by kernel_rfl) (by kernel_rfl) (fun _=>by kernel_rfl) (fun _ _=>by kernel_rfl) ⟨⟨_,rfl⟩,rfl,⟨⟨_,rfl⟩,rfl,trivial⟩⟩ (fun nb=>⟨rfl,(part_lit rfl),rfl,rfl,(part_lit rfl),rfl,⟨en_fAdd,fun w Hw=>fadd2 l.x2 l.z2 (lA l) (nb 4) _ hl.1 hl.2.1 rfl w (Hw 0 _ rfl)⟩,rfl,(part_lit rfl),rfl,rfl,(part_lit rfl),rfl,(cP en_fSub (fsub2 l.x2 l.z2 (lB l) hl.1 hl.2.1 rfl) _),trivial⟩) (fun nb=>⟨rfl,rfl,rfl,(by kernel_rfl),rfl,rfl,rfl,rfl,(by kernel_rfl),rfl,fun _ _ FF2 MM2=>tN ?_⟩))
 generalize nb 11=pa at *
 generalize nb 12=pb at *
 refine wp_seq (rg_draw FF2 MM2 [.inl (aG #[iW (fw0 (lA l)),iW (fw1 (lA l)),iW (fw2 (lA l)),iW (fw3 (lA l))]),.inl (aG #[iW (fw0 (lA l)),iW (fw1 (lA l)),iW (fw2 (lA l)),iW (fw3 (lA l))]),.inr (oC #[iW (fw0 (lA l)),iW (fw1 (lA l)),iW (fw2 (lA l)),iW (fw3 (lA l)),iW (fw0 (lA l)),iW (fw1 (lA l)),iW (fw2 (lA l)),iW (fw3 (lA l))] 194,fun b=>.slice (some ⟨b,0,none⟩) 2 2),.inl (aG #[iW (fw0 (lAA l)),iW (fw1 (lAA l)),iW (fw2 (lAA l)),iW (fw3 (lAA l))]),.inl (aG #[iW (fw0 (lB l)),iW (fw1 (lB l)),iW (fw2 (lB l)),iW (fw3 (lB l))]),.inl (aG #[iW (fw0 (lB l)),iW (fw1 (lB l)),iW (fw2 (lB l)),iW (fw3 (lB l))]),.inr (oC #[iW (fw0 (lB l)),iW (fw1 (lB l)),iW (fw2 (lB l)),iW (fw3 (lB l)),iW (fw0 (lB l)),iW (fw1 (lB l)),iW (fw2 (lB l)),iW (fw3 (lB l))] 194,fun b=>.slice (some ⟨b,0,none⟩) 2 2),.inl (aG #[iW (fw0 (lBB l)),iW (fw1 (lBB l)),iW (fw2 (lBB l)),iW (fw3 (lBB l))]),.inr (oC #[iW 0,iW 0,iW 0,iW 0] 194,fun b=>pT b),.inr (oC #[iW 0,iW 0,iW 0,iW 0] 194,fun b=>pT b)] [8,9] [b_ 0,b_ 0,o_,u_ 1 (aG #[iW (fw0 (lAA l)),iW (fw1 (lAA l)),iW (fw2 (lAA l)),iW (fw3 (lAA l))]),b_ 1,b_ 1,o_,u_ 1 (aG #[iW (fw0 (lBB l)),iW (fw1 (lBB l)),iW (fw2 (lBB l)),iW (fw3 (lBB l))]),o_,o_] [b_ 0,b_ 1] [6,5,4,3,2,7,8] (fun nb=>[pa=pa,(#[iW (fw0 (lA l)),iW (fw1 (lA l)),iW (fw2 (lA l)),iW (fw3 (lA l))]:Array Value).size=4,pa=pa,(#[iW (fw0 (lA l)),iW (fw1 (lA l)),iW (fw2 (lA l)),iW (fw3 (lA l))]:Array Value).size=4,CallP Tryz.prog 107 [.slice (some ⟨(nb 2),0,none⟩) 2 2] [((nb 2),oC #[iW (fw0 (lA l)),iW (fw1 (lA l)),iW (fw2 (lA l)),iW (fw3 (lA l)),iW (fw0 (lA l)),iW (fw1 (lA l)),iW (fw2 (lA l)),iW (fw3 (lA l))] 194),(pa,oC #[iW (fw0 (lA l)),iW (fw1 (lA l)),iW (fw2 (lA l)),iW (fw3 (lA l))] 194),(pb,oC #[iW (fw0 (lB l)),iW (fw1 (lB l)),iW (fw2 (lB l)),iW (fw3 (lB l))] 194),(br,oC #[iW 0,iW 0,iW 0,iW 0,iW 0,iW 0,iW 0,iW 0,iW 0,iW 0,iW 0,iW 0,iW 0,iW 0,iW 0,iW 0] 198),(bu,oC #[iW (fw0 u),iW (fw1 u),iW (fw2 u),iW (fw3 u)] 194),(bl,oC #[iW (fw0 l.x2),iW (fw1 l.x2),iW (fw2 l.x2),iW (fw3 l.x2),iW (fw0 l.z2),iW (fw1 l.z2),iW (fw2 l.z2),iW (fw3 l.z2),iW (fw0 l.x3),iW (fw1 l.x3),iW (fw2 l.x3),iW (fw3 l.x3),iW (fw0 l.z3),iW (fw1 l.z3),iW (fw2 l.z3),iW (fw3 l.z3)] 198)] (aG #[iW (fw0 (lAA l)),iW (fw1 (lAA l)),iW (fw2 (lAA l)),iW (fw3 (lAA l))]),pb=pb,(#[iW (fw0 (lB l)),iW (fw1 (lB l)),iW (fw2 (lB l)),iW (fw3 (lB l))]:Array Value).size=4,pb=pb,(#[iW (fw0 (lB l)),iW (fw1 (lB l)),iW (fw2 (lB l)),iW (fw3 (lB l))]:Array Value).size=4,CallP Tryz.prog 107 [.slice (some ⟨(nb 6),0,none⟩) 2 2] [((nb 6),oC #[iW (fw0 (lB l)),iW (fw1 (lB l)),iW (fw2 (lB l)),iW (fw3 (lB l)),iW (fw0 (lB l)),iW (fw1 (lB l)),iW (fw2 (lB l)),iW (fw3 (lB l))] 194),(pa,oC #[iW (fw0 (lA l)),iW (fw1 (lA l)),iW (fw2 (lA l)),iW (fw3 (lA l))] 194),(pb,oC #[iW (fw0 (lB l)),iW (fw1 (lB l)),iW (fw2 (lB l)),iW (fw3 (lB l))] 194),(br,oC #[iW 0,iW 0,iW 0,iW 0,iW 0,iW 0,iW 0,iW 0,iW 0,iW 0,iW 0,iW 0,iW 0,iW 0,iW 0,iW 0] 198),(bu,oC #[iW (fw0 u),iW (fw1 u),iW (fw2 u),iW (fw3 u)] 194),(bl,oC #[iW (fw0 l.x2),iW (fw1 l.x2),iW (fw2 l.x2),iW (fw3 l.x2),iW (fw0 l.z2),iW (fw1 l.z2),iW (fw2 l.z2),iW (fw3 l.z2),iW (fw0 l.x3),iW (fw1 l.x3),iW (fw2 l.x3),iW (fw3 l.x3),iW (fw0 l.z3),iW (fw1 l.z3),iW (fw2 l.z3),iW (fw3 l.z3)] 198)] (aG #[iW (fw0 (lBB l)),iW (fw1 (lBB l)),iW (fw2 (lBB l)),iW (fw3 (lBB l))])]) (fun nb Kt=>(nb 8)=(nb 8)∧(#[iW 0,iW 0,iW 0,iW 0]:Array Value).size=4∧(#[iW (fw0 (lAA l)),iW (fw1 (lAA l)),iW (fw2 (lAA l)),iW (fw3 (lAA l))]:Array Value).size=4∧(#[iW (fw0 (lAA l)),iW (fw1 (lAA l)),iW (fw2 (lAA l)),iW (fw3 (lAA l))]:Array Value).all (·.oneCell')=true∧(0,0).2=0∧(nb 9)=(nb 9)∧(#[iW 0,iW 0,iW 0,iW 0]:Array Value).size=4∧(#[iW (fw0 (lBB l)),iW (fw1 (lBB l)),iW (fw2 (lBB l)),iW (fw3 (lBB l))]:Array Value).size=4∧(#[iW (fw0 (lBB l)),iW (fw1 (lBB l)),iW (fw2 (lBB l)),iW (fw3 (lBB l))]:Array Value).all (·.oneCell')=true∧(0,0).2=0∧Kt [(8,pT (nb 9)),(7,pT (nb 8)),(6,pT pb),(5,pT pa),(4,pT br),(3,pT bu),(2,pT bl)] [((nb 8),oC #[iW (fw0 (lAA l)),iW (fw1 (lAA l)),iW (fw2 (lAA l)),iW (fw3 (lAA l))] 194),((nb 9),oC #[iW (fw0 (lBB l)),iW (fw1 (lBB l)),iW (fw2 (lBB l)),iW (fw3 (lBB l))] 194),(pa,oC #[iW (fw0 (lA l)),iW (fw1 (lA l)),iW (fw2 (lA l)),iW (fw3 (lA l))] 194),(pb,oC #[iW (fw0 (lB l)),iW (fw1 (lB l)),iW (fw2 (lB l)),iW (fw3 (lB l))] 194),(br,oC #[iW 0,iW 0,iW 0,iW 0,iW 0,iW 0,iW 0,iW 0,iW 0,iW 0,iW 0,iW 0,iW 0,iW 0,iW 0,iW 0] 198),(bu,oC #[iW (fw0 u),iW (fw1 u),iW (fw2 u),iW (fw3 u)] 194),(bl,oC #[iW (fw0 l.x2),iW (fw1 l.x2),iW (fw2 l.x2),iW (fw3 l.x2),iW (fw0 l.z2),iW (fw1 l.z2),iW (fw2 l.z2),iW (fw3 l.z2),iW (fw0 l.x3),iW (fw1 l.x3),iW (fw2 l.x3),iW (fw3 l.x3),iW (fw0 l.z3),iW (fw1 l.z3),iW (fw2 l.z3),iW (fw3 l.z3)] 198)]) (by kernel_rfl) (by kernel_rfl) (by kernel_rfl) (fun _=>by kernel_rfl) (fun _ _=>by kernel_rfl) ⟨⟨_,rfl⟩,rfl,⟨⟨_,rfl⟩,rfl,trivial⟩⟩ (fun nb=>⟨rfl,rfl,rfl,rfl,⟨en_fMul,fun w Hw=>fmul2 (lA l) (lA l) (lAA l) (nb 2) _ (aN_lt _ _) (aN_lt _ _) rfl w (Hw 0 _ rfl)⟩,rfl,rfl,rfl,rfl,⟨en_fMul,fun w Hw=>fmul2 (lB l) (lB l) (lBB l) (nb 6) _ (sN_lt _ _) (sN_lt _ _) rfl w (Hw 0 _ rfl)⟩,trivial⟩) (fun nb=>⟨rfl,rfl,rfl,(by kernel_rfl),rfl,rfl,rfl,rfl,(by kernel_rfl),rfl,fun _ _ FF3 MM3=>tN ?_⟩))
 generalize nb 8=paa at *
 generalize nb 9=pbb at *
 refine wp_seq (rg_c FF3 MM3 [(0,b_ 0),(0,b_ 1),(0,t_ (aG #[iW (fw0 (lE l)),iW (fw1 (lE l)),iW (fw2 (lE l)),iW (fw3 (lE l))])),(1,b_ 0)] 9 [9] [] (⟨rfl,rfl,rfl,rfl,(cP en_fSub (fsub2 (lAA l) (lBB l) (lE l) (mN_lt _ _) (mN_lt _ _) rfl) _),fun pe=>⟨rfl,rfl,rfl,(by kernel_rfl),rfl,fun _ _ FF4 MM4=>tN ?_⟩⟩))
 refine wp_seq (rg_draw FF4 MM4 [.inl (.pointer (some ⟨bl,8,none⟩)),.inl (aG #[iW (fw0 l.x3),iW (fw1 l.x3),iW (fw2 l.x3),iW (fw3 l.x3)]),.inl (.pointer (some ⟨bl,12,none⟩)),.inl (aG #[iW (fw0 l.z3),iW (fw1 l.z3),iW (fw2 l.z3),iW (fw3 l.z3)]),.inl (aG #[iW (fw0 (sN l.x3 l.z3)),iW (fw1 (sN l.x3 l.z3)),iW (fw2 (sN l.x3 l.z3)),iW (fw3 (sN l.x3 l.z3))]),.inl (aG #[iW (fw0 (lA l)),iW (fw1 (lA l)),iW (fw2 (lA l)),iW (fw3 (lA l))]),.inr (oC #[iW (fw0 (sN l.x3 l.z3)),iW (fw1 (sN l.x3 l.z3)),iW (fw2 (sN l.x3 l.z3)),iW (fw3 (sN l.x3 l.z3)),iW (fw0 (lA l)),iW (fw1 (lA l)),iW (fw2 (lA l)),iW (fw3 (lA l))] 194,fun b=>.slice (some ⟨b,0,none⟩) 2 2),.inl (aG #[iW (fw0 (lDA l)),iW (fw1 (lDA l)),iW (fw2 (lDA l)),iW (fw3 (lDA l))]),.inr (oC #[iW 0,iW 0,iW 0,iW 0] 194,fun b=>pT b)] [8] [o_,l_ 7 (aG #[iW (fw0 l.x3),iW (fw1 l.x3),iW (fw2 l.x3),iW (fw3 l.x3)]),o_,l_ 7 (aG #[iW (fw0 l.z3),iW (fw1 l.z3),iW (fw2 l.z3),iW (fw3 l.z3)]),t_ (aG #[iW (fw0 (sN l.x3 l.z3)),iW (fw1 (sN l.x3 l.z3)),iW (fw2 (sN l.x3 l.z3)),iW (fw3 (sN l.x3 l.z3))]),b_ 3,o_,u_ 1 (aG #[iW (fw0 (lDA l)),iW (fw1 (lDA l)),iW (fw2 (lDA l)),iW (fw3 (lDA l))]),o_] [b_ 0] [9,8,7,6,5,4,3,2,10] (fun nb=>[bl=bl,PartAt (#[iW (fw0 l.x2),iW (fw1 l.x2),iW (fw2 l.x2),iW (fw3 l.x2),iW (fw0 l.z2),iW (fw1 l.z2),iW (fw2 l.z2),iW (fw3 l.z2),iW (fw0 l.x3),iW (fw1 l.x3),iW (fw2 l.x3),iW (fw3 l.x3),iW (fw0 l.z3),iW (fw1 l.z3),iW (fw2 l.z3),iW (fw3 l.z3)]:Array Value) 8 (#[iW (fw0 l.x3),iW (fw1 l.x3),iW (fw2 l.x3),iW (fw3 l.x3)]:Array Value),(#[iW (fw0 l.x3),iW (fw1 l.x3),iW (fw2 l.x3),iW (fw3 l.x3)]:Array Value).size=4,bl=bl,PartAt (#[iW (fw0 l.x2),iW (fw1 l.x2),iW (fw2 l.x2),iW (fw3 l.x2),iW (fw0 l.z2),iW (fw1 l.z2),iW (fw2 l.z2),iW (fw3 l.z2),iW (fw0 l.x3),iW (fw1 l.x3),iW (fw2 l.x3),iW (fw3 l.x3),iW (fw0 l.z3),iW (fw1 l.z3),iW (fw2 l.z3),iW (fw3 l.z3)]:Array Value) 12 (#[iW (fw0 l.z3),iW (fw1 l.z3),iW (fw2 l.z3),iW (fw3 l.z3)]:Array Value),(#[iW (fw0 l.z3),iW (fw1 l.z3),iW (fw2 l.z3),iW (fw3 l.z3)]:Array Value).size=4,CallP Tryz.prog 137 [aG #[iW (fw0 l.x3),iW (fw1 l.x3),iW (fw2 l.x3),iW (fw3 l.x3)],aG #[iW (fw0 l.z3),iW (fw1 l.z3),iW (fw2 l.z3),iW (fw3 l.z3)]] [] (aG #[iW (fw0 (sN l.x3 l.z3)),iW (fw1 (sN l.x3 l.z3)),iW (fw2 (sN l.x3 l.z3)),iW (fw3 (sN l.x3 l.z3))]),pa=pa,(#[iW (fw0 (lA l)),iW (fw1 (lA l)),iW (fw2 (lA l)),iW (fw3 (lA l))]:Array Value).size=4,CallP Tryz.prog 107 [.slice (some ⟨(nb 6),0,none⟩) 2 2] [((nb 6),oC #[iW (fw0 (sN l.x3 l.z3)),iW (fw1 (sN l.x3 l.z3)),iW (fw2 (sN l.x3 l.z3)),iW (fw3 (sN l.x3 l.z3)),iW (fw0 (lA l)),iW (fw1 (lA l)),iW (fw2 (lA l)),iW (fw3 (lA l))] 194),(pe,oC #[iW (fw0 (lE l)),iW (fw1 (lE l)),iW (fw2 (lE l)),iW (fw3 (lE l))] 194),(paa,oC #[iW (fw0 (lAA l)),iW (fw1 (lAA l)),iW (fw2 (lAA l)),iW (fw3 (lAA l))] 194),(pbb,oC #[iW (fw0 (lBB l)),iW (fw1 (lBB l)),iW (fw2 (lBB l)),iW (fw3 (lBB l))] 194),(pa,oC #[iW (fw0 (lA l)),iW (fw1 (lA l)),iW (fw2 (lA l)),iW (fw3 (lA l))] 194),(pb,oC #[iW (fw0 (lB l)),iW (fw1 (lB l)),iW (fw2 (lB l)),iW (fw3 (lB l))] 194),(br,oC #[iW 0,iW 0,iW 0,iW 0,iW 0,iW 0,iW 0,iW 0,iW 0,iW 0,iW 0,iW 0,iW 0,iW 0,iW 0,iW 0] 198),(bu,oC #[iW (fw0 u),iW (fw1 u),iW (fw2 u),iW (fw3 u)] 194),(bl,oC #[iW (fw0 l.x2),iW (fw1 l.x2),iW (fw2 l.x2),iW (fw3 l.x2),iW (fw0 l.z2),iW (fw1 l.z2),iW (fw2 l.z2),iW (fw3 l.z2),iW (fw0 l.x3),iW (fw1 l.x3),iW (fw2 l.x3),iW (fw3 l.x3),iW (fw0 l.z3),iW (fw1 l.z3),iW (fw2 l.z3),iW (fw3 l.z3)] 198)] (aG #[iW (fw0 (lDA l)),iW (fw1 (lDA l)),iW (fw2 (lDA l)),iW (fw3 (lDA l))])]) (fun nb Kt=>(nb 8)=(nb 8)∧(#[iW 0,iW 0,iW 0,iW 0]:Array Value).size=4∧(#[iW (fw0 (lDA l)),iW (fw1 (lDA l)),iW (fw2 (lDA l)),iW (fw3 (lDA l))]:Array Value).size=4∧(#[iW (fw0 (lDA l)),iW (fw1 (lDA l)),iW (fw2 (lDA l)),iW (fw3 (lDA l))]:Array Value).all (·.oneCell')=true∧(0,0).2=0∧Kt [(10,pT (nb 8)),(9,pT pe),(8,pT pbb),(7,pT paa),(6,pT pb),(5,pT pa),(4,pT br),(3,pT bu),(2,pT bl)] [((nb 8),oC #[iW (fw0 (lDA l)),iW (fw1 (lDA l)),iW (fw2 (lDA l)),iW (fw3 (lDA l))] 194),(pe,oC #[iW (fw0 (lE l)),iW (fw1 (lE l)),iW (fw2 (lE l)),iW (fw3 (lE l))] 194),(paa,oC #[iW (fw0 (lAA l)),iW (fw1 (lAA l)),iW (fw2 (lAA l)),iW (fw3 (lAA l))] 194),(pbb,oC #[iW (fw0 (lBB l)),iW (fw1 (lBB l)),iW (fw2 (lBB l)),iW (fw3 (lBB l))] 194),(pa,oC #[iW (fw0 (lA l)),iW (fw1 (lA l)),iW (fw2 (lA l)),iW (fw3 (lA l))] 194),(pb,oC #[iW (fw0 (lB l)),iW (fw1 (lB l)),iW (fw2 (lB l)),iW (fw3 (lB l))] 194),(br,oC #[iW 0,iW 0,iW 0,iW 0,iW 0,iW 0,iW 0,iW 0,iW 0,iW 0,iW 0,iW 0,iW 0,iW 0,iW 0,iW 0] 198),(bu,oC #[iW (fw0 u),iW (fw1 u),iW (fw2 u),iW (fw3 u)] 194),(bl,oC #[iW (fw0 l.x2),iW (fw1 l.x2),iW (fw2 l.x2),iW (fw3 l.x2),iW (fw0 l.z2),iW (fw1 l.z2),iW (fw2 l.z2),iW (fw3 l.z2),iW (fw0 l.x3),iW (fw1 l.x3),iW (fw2 l.x3),iW (fw3 l.x3),iW (fw0 l.z3),iW (fw1 l.z3),iW (fw2 l.z3),iW (fw3 l.z3)] 198)]) (by kernel_rfl) (by kernel_rfl) (by kernel_rfl) (fun _=>by kernel_rfl) (fun _ _=>by kernel_rfl) ⟨⟨_,rfl⟩,rfl,trivial⟩ (fun nb=>⟨rfl,(part_lit rfl),rfl,rfl,(part_lit rfl),rfl,(cP en_fSub (fsub2 l.x3 l.z3 (sN l.x3 l.z3) hl.2.2.1 hl.2.2.2 rfl) _),rfl,rfl,⟨en_fMul,fun w Hw=>fmul2 (sN l.x3 l.z3) (lA l) (lDA l) (nb 6) _ (sN_lt _ _) (aN_lt _ _) rfl w (Hw 0 _ rfl)⟩,trivial⟩) (fun nb=>⟨rfl,rfl,rfl,(by kernel_rfl),rfl,fun _ _ FF5 MM5=>tN ?_⟩))
 generalize nb 8=pda at *
 refine wp_seq (rg_draw FF5 MM5 [.inl (.pointer (some ⟨bl,8,none⟩)),.inl (aG #[iW (fw0 l.x3),iW (fw1 l.x3),iW (fw2 l.x3),iW (fw3 l.x3)]),.inl (.pointer (some ⟨bl,12,none⟩)),.inl (aG #[iW (fw0 l.z3),iW (fw1 l.z3),iW (fw2 l.z3),iW (fw3 l.z3)]),.inr (oC #[iW (fw0 l.x3),iW (fw1 l.x3),iW (fw2 l.x3),iW (fw3 l.x3),iW (fw0 l.z3),iW (fw1 l.z3),iW (fw2 l.z3),iW (fw3 l.z3)] 194,fun b=>.slice (some ⟨b,0,none⟩) 2 2),.inl (aG #[iW (fw0 (aN l.x3 l.z3)),iW (fw1 (aN l.x3 l.z3)),iW (fw2 (aN l.x3 l.z3)),iW (fw3 (aN l.x3 l.z3))]),.inl (aG #[iW (fw0 (lB l)),iW (fw1 (lB l)),iW (fw2 (lB l)),iW (fw3 (lB l))]),.inr (oC #[iW (fw0 (aN l.x3 l.z3)),iW (fw1 (aN l.x3 l.z3)),iW (fw2 (aN l.x3 l.z3)),iW (fw3 (aN l.x3 l.z3)),iW (fw0 (lB l)),iW (fw1 (lB l)),iW (fw2 (lB l)),iW (fw3 (lB l))] 194,fun b=>.slice (some ⟨b,0,none⟩) 2 2),.inl (aG #[iW (fw0 (lCB l)),iW (fw1 (lCB l)),iW (fw2 (lCB l)),iW (fw3 (lCB l))]),.inr (oC #[iW 0,iW 0,iW 0,iW 0] 194,fun b=>pT b)] [9] [o_,l_ 8 (aG #[iW (fw0 l.x3),iW (fw1 l.x3),iW (fw2 l.x3),iW (fw3 l.x3)]),o_,l_ 8 (aG #[iW (fw0 l.z3),iW (fw1 l.z3),iW (fw2 l.z3),iW (fw3 l.z3)]),o_,u_ 1 (aG #[iW (fw0 (aN l.x3 l.z3)),iW (fw1 (aN l.x3 l.z3)),iW (fw2 (aN l.x3 l.z3)),iW (fw3 (aN l.x3 l.z3))]),b_ 5,o_,u_ 1 (aG #[iW (fw0 (lCB l)),iW (fw1 (lCB l)),iW (fw2 (lCB l)),iW (fw3 (lCB l))]),o_] [b_ 0] [10,9,8,7,6,5,4,3,2,11] (fun nb=>[bl=bl,PartAt (#[iW (fw0 l.x2),iW (fw1 l.x2),iW (fw2 l.x2),iW (fw3 l.x2),iW (fw0 l.z2),iW (fw1 l.z2),iW (fw2 l.z2),iW (fw3 l.z2),iW (fw0 l.x3),iW (fw1 l.x3),iW (fw2 l.x3),iW (fw3 l.x3),iW (fw0 l.z3),iW (fw1 l.z3),iW (fw2 l.z3),iW (fw3 l.z3)]:Array Value) 8 (#[iW (fw0 l.x3),iW (fw1 l.x3),iW (fw2 l.x3),iW (fw3 l.x3)]:Array Value),(#[iW (fw0 l.x3),iW (fw1 l.x3),iW (fw2 l.x3),iW (fw3 l.x3)]:Array Value).size=4,bl=bl,PartAt (#[iW (fw0 l.x2),iW (fw1 l.x2),iW (fw2 l.x2),iW (fw3 l.x2),iW (fw0 l.z2),iW (fw1 l.z2),iW (fw2 l.z2),iW (fw3 l.z2),iW (fw0 l.x3),iW (fw1 l.x3),iW (fw2 l.x3),iW (fw3 l.x3),iW (fw0 l.z3),iW (fw1 l.z3),iW (fw2 l.z3),iW (fw3 l.z3)]:Array Value) 12 (#[iW (fw0 l.z3),iW (fw1 l.z3),iW (fw2 l.z3),iW (fw3 l.z3)]:Array Value),(#[iW (fw0 l.z3),iW (fw1 l.z3),iW (fw2 l.z3),iW (fw3 l.z3)]:Array Value).size=4,CallP Tryz.prog 136 [.slice (some ⟨(nb 4),0,none⟩) 2 2] [((nb 4),oC #[iW (fw0 l.x3),iW (fw1 l.x3),iW (fw2 l.x3),iW (fw3 l.x3),iW (fw0 l.z3),iW (fw1 l.z3),iW (fw2 l.z3),iW (fw3 l.z3)] 194),(pda,oC #[iW (fw0 (lDA l)),iW (fw1 (lDA l)),iW (fw2 (lDA l)),iW (fw3 (lDA l))] 194),(pe,oC #[iW (fw0 (lE l)),iW (fw1 (lE l)),iW (fw2 (lE l)),iW (fw3 (lE l))] 194),(paa,oC #[iW (fw0 (lAA l)),iW (fw1 (lAA l)),iW (fw2 (lAA l)),iW (fw3 (lAA l))] 194),(pbb,oC #[iW (fw0 (lBB l)),iW (fw1 (lBB l)),iW (fw2 (lBB l)),iW (fw3 (lBB l))] 194),(pa,oC #[iW (fw0 (lA l)),iW (fw1 (lA l)),iW (fw2 (lA l)),iW (fw3 (lA l))] 194),(pb,oC #[iW (fw0 (lB l)),iW (fw1 (lB l)),iW (fw2 (lB l)),iW (fw3 (lB l))] 194),(br,oC #[iW 0,iW 0,iW 0,iW 0,iW 0,iW 0,iW 0,iW 0,iW 0,iW 0,iW 0,iW 0,iW 0,iW 0,iW 0,iW 0] 198),(bu,oC #[iW (fw0 u),iW (fw1 u),iW (fw2 u),iW (fw3 u)] 194),(bl,oC #[iW (fw0 l.x2),iW (fw1 l.x2),iW (fw2 l.x2),iW (fw3 l.x2),iW (fw0 l.z2),iW (fw1 l.z2),iW (fw2 l.z2),iW (fw3 l.z2),iW (fw0 l.x3),iW (fw1 l.x3),iW (fw2 l.x3),iW (fw3 l.x3),iW (fw0 l.z3),iW (fw1 l.z3),iW (fw2 l.z3),iW (fw3 l.z3)] 198)] (aG #[iW (fw0 (aN l.x3 l.z3)),iW (fw1 (aN l.x3 l.z3)),iW (fw2 (aN l.x3 l.z3)),iW (fw3 (aN l.x3 l.z3))]),pb=pb,(#[iW (fw0 (lB l)),iW (fw1 (lB l)),iW (fw2 (lB l)),iW (fw3 (lB l))]:Array Value).size=4,CallP Tryz.prog 107 [.slice (some ⟨(nb 7),0,none⟩) 2 2] [((nb 7),oC #[iW (fw0 (aN l.x3 l.z3)),iW (fw1 (aN l.x3 l.z3)),iW (fw2 (aN l.x3 l.z3)),iW (fw3 (aN l.x3 l.z3)),iW (fw0 (lB l)),iW (fw1 (lB l)),iW (fw2 (lB l)),iW (fw3 (lB l))] 194),(pda,oC #[iW (fw0 (lDA l)),iW (fw1 (lDA l)),iW (fw2 (lDA l)),iW (fw3 (lDA l))] 194),(pe,oC #[iW (fw0 (lE l)),iW (fw1 (lE l)),iW (fw2 (lE l)),iW (fw3 (lE l))] 194),(paa,oC #[iW (fw0 (lAA l)),iW (fw1 (lAA l)),iW (fw2 (lAA l)),iW (fw3 (lAA l))] 194),(pbb,oC #[iW (fw0 (lBB l)),iW (fw1 (lBB l)),iW (fw2 (lBB l)),iW (fw3 (lBB l))] 194),(pa,oC #[iW (fw0 (lA l)),iW (fw1 (lA l)),iW (fw2 (lA l)),iW (fw3 (lA l))] 194),(pb,oC #[iW (fw0 (lB l)),iW (fw1 (lB l)),iW (fw2 (lB l)),iW (fw3 (lB l))] 194),(br,oC #[iW 0,iW 0,iW 0,iW 0,iW 0,iW 0,iW 0,iW 0,iW 0,iW 0,iW 0,iW 0,iW 0,iW 0,iW 0,iW 0] 198),(bu,oC #[iW (fw0 u),iW (fw1 u),iW (fw2 u),iW (fw3 u)] 194),(bl,oC #[iW (fw0 l.x2),iW (fw1 l.x2),iW (fw2 l.x2),iW (fw3 l.x2),iW (fw0 l.z2),iW (fw1 l.z2),iW (fw2 l.z2),iW (fw3 l.z2),iW (fw0 l.x3),iW (fw1 l.x3),iW (fw2 l.x3),iW (fw3 l.x3),iW (fw0 l.z3),iW (fw1 l.z3),iW (fw2 l.z3),iW (fw3 l.z3)] 198)] (aG #[iW (fw0 (lCB l)),iW (fw1 (lCB l)),iW (fw2 (lCB l)),iW (fw3 (lCB l))])]) (fun nb Kt=>(nb 9)=(nb 9)∧(#[iW 0,iW 0,iW 0,iW 0]:Array Value).size=4∧(#[iW (fw0 (lCB l)),iW (fw1 (lCB l)),iW (fw2 (lCB l)),iW (fw3 (lCB l))]:Array Value).size=4∧(#[iW (fw0 (lCB l)),iW (fw1 (lCB l)),iW (fw2 (lCB l)),iW (fw3 (lCB l))]:Array Value).all (·.oneCell')=true∧(0,0).2=0∧Kt [(11,pT (nb 9)),(10,pT pda),(9,pT pe),(8,pT pbb),(7,pT paa),(6,pT pb),(5,pT pa),(4,pT br),(3,pT bu),(2,pT bl)] [((nb 9),oC #[iW (fw0 (lCB l)),iW (fw1 (lCB l)),iW (fw2 (lCB l)),iW (fw3 (lCB l))] 194),(pda,oC #[iW (fw0 (lDA l)),iW (fw1 (lDA l)),iW (fw2 (lDA l)),iW (fw3 (lDA l))] 194),(pe,oC #[iW (fw0 (lE l)),iW (fw1 (lE l)),iW (fw2 (lE l)),iW (fw3 (lE l))] 194),(paa,oC #[iW (fw0 (lAA l)),iW (fw1 (lAA l)),iW (fw2 (lAA l)),iW (fw3 (lAA l))] 194),(pbb,oC #[iW (fw0 (lBB l)),iW (fw1 (lBB l)),iW (fw2 (lBB l)),iW (fw3 (lBB l))] 194),(pa,oC #[iW (fw0 (lA l)),iW (fw1 (lA l)),iW (fw2 (lA l)),iW (fw3 (lA l))] 194),(pb,oC #[iW (fw0 (lB l)),iW (fw1 (lB l)),iW (fw2 (lB l)),iW (fw3 (lB l))] 194),(br,oC #[iW 0,iW 0,iW 0,iW 0,iW 0,iW 0,iW 0,iW 0,iW 0,iW 0,iW 0,iW 0,iW 0,iW 0,iW 0,iW 0] 198),(bu,oC #[iW (fw0 u),iW (fw1 u),iW (fw2 u),iW (fw3 u)] 194),(bl,oC #[iW (fw0 l.x2),iW (fw1 l.x2),iW (fw2 l.x2),iW (fw3 l.x2),iW (fw0 l.z2),iW (fw1 l.z2),iW (fw2 l.z2),iW (fw3 l.z2),iW (fw0 l.x3),iW (fw1 l.x3),iW (fw2 l.x3),iW (fw3 l.x3),iW (fw0 l.z3),iW (fw1 l.z3),iW (fw2 l.z3),iW (fw3 l.z3)] 198)]) (by kernel_rfl) (by kernel_rfl) (by kernel_rfl) (fun _=>by kernel_rfl) (fun _ _=>by kernel_rfl) ⟨⟨_,rfl⟩,rfl,trivial⟩ (fun nb=>⟨rfl,(part_lit rfl),rfl,rfl,(part_lit rfl),rfl,⟨en_fAdd,fun w Hw=>fadd2 l.x3 l.z3 (aN l.x3 l.z3) (nb 4) _ hl.2.2.1 hl.2.2.2 rfl w (Hw 0 _ rfl)⟩,rfl,rfl,⟨en_fMul,fun w Hw=>fmul2 (aN l.x3 l.z3) (lB l) (lCB l) (nb 7) _ (aN_lt _ _) (sN_lt _ _) rfl w (Hw 0 _ rfl)⟩,trivial⟩) (fun nb=>⟨rfl,rfl,rfl,(by kernel_rfl),rfl,fun _ _ FF6 MM6=>tN ?_⟩))
 generalize nb 9=pcb at *
 refine wp_seq (rg_draw FF6 MM6 [.inl (aG #[iW (fw0 (lDA l)),iW (fw1 (lDA l)),iW (fw2 (lDA l)),iW (fw3 (lDA l))]),.inl (aG #[iW (fw0 (lCB l)),iW (fw1 (lCB l)),iW (fw2 (lCB l)),iW (fw3 (lCB l))]),.inr (oC #[iW (fw0 (lDA l)),iW (fw1 (lDA l)),iW (fw2 (lDA l)),iW (fw3 (lDA l)),iW (fw0 (lCB l)),iW (fw1 (lCB l)),iW (fw2 (lCB l)),iW (fw3 (lCB l))] 194,fun b=>.slice (some ⟨b,0,none⟩) 2 2),.inl (aG #[iW (fw0 (lS l)),iW (fw1 (lS l)),iW (fw2 (lS l)),iW (fw3 (lS l))]),.inl (aG #[iW (fw0 (lDA l)),iW (fw1 (lDA l)),iW (fw2 (lDA l)),iW (fw3 (lDA l))]),.inl (aG #[iW (fw0 (lCB l)),iW (fw1 (lCB l)),iW (fw2 (lCB l)),iW (fw3 (lCB l))]),.inl (aG #[iW (fw0 (lL l)),iW (fw1 (lL l)),iW (fw2 (lL l)),iW (fw3 (lL l))]),.inr (oC #[iW 0,iW 0,iW 0,iW 0] 194,fun b=>pT b),.inr (oC #[iW 0,iW 0,iW 0,iW 0] 194,fun b=>pT b)] [7,8] [b_ 1,b_ 0,o_,u_ 1 (aG #[iW (fw0 (lS l)),iW (fw1 (lS l)),iW (fw2 (lS l)),iW (fw3 (lS l))]),b_ 1,b_ 0,t_ (aG #[iW (fw0 (lL l)),iW (fw1 (lL l)),iW (fw2 (lL l)),iW (fw3 (lL l))]),o_,o_] [b_ 0,b_ 1] [11,10,9,8,7,6,5,4,3,2,12,13] (fun nb=>[pda=pda,(#[iW (fw0 (lDA l)),iW (fw1 (lDA l)),iW (fw2 (lDA l)),iW (fw3 (lDA l))]:Array Value).size=4,pcb=pcb,(#[iW (fw0 (lCB l)),iW (fw1 (lCB l)),iW (fw2 (lCB l)),iW (fw3 (lCB l))]:Array Value).size=4,CallP Tryz.prog 136 [.slice (some ⟨(nb 2),0,none⟩) 2 2] [((nb 2),oC #[iW (fw0 (lDA l)),iW (fw1 (lDA l)),iW (fw2 (lDA l)),iW (fw3 (lDA l)),iW (fw0 (lCB l)),iW (fw1 (lCB l)),iW (fw2 (lCB l)),iW (fw3 (lCB l))] 194),(pcb,oC #[iW (fw0 (lCB l)),iW (fw1 (lCB l)),iW (fw2 (lCB l)),iW (fw3 (lCB l))] 194),(pda,oC #[iW (fw0 (lDA l)),iW (fw1 (lDA l)),iW (fw2 (lDA l)),iW (fw3 (lDA l))] 194),(pe,oC #[iW (fw0 (lE l)),iW (fw1 (lE l)),iW (fw2 (lE l)),iW (fw3 (lE l))] 194),(paa,oC #[iW (fw0 (lAA l)),iW (fw1 (lAA l)),iW (fw2 (lAA l)),iW (fw3 (lAA l))] 194),(pbb,oC #[iW (fw0 (lBB l)),iW (fw1 (lBB l)),iW (fw2 (lBB l)),iW (fw3 (lBB l))] 194),(pa,oC #[iW (fw0 (lA l)),iW (fw1 (lA l)),iW (fw2 (lA l)),iW (fw3 (lA l))] 194),(pb,oC #[iW (fw0 (lB l)),iW (fw1 (lB l)),iW (fw2 (lB l)),iW (fw3 (lB l))] 194),(br,oC #[iW 0,iW 0,iW 0,iW 0,iW 0,iW 0,iW 0,iW 0,iW 0,iW 0,iW 0,iW 0,iW 0,iW 0,iW 0,iW 0] 198),(bu,oC #[iW (fw0 u),iW (fw1 u),iW (fw2 u),iW (fw3 u)] 194),(bl,oC #[iW (fw0 l.x2),iW (fw1 l.x2),iW (fw2 l.x2),iW (fw3 l.x2),iW (fw0 l.z2),iW (fw1 l.z2),iW (fw2 l.z2),iW (fw3 l.z2),iW (fw0 l.x3),iW (fw1 l.x3),iW (fw2 l.x3),iW (fw3 l.x3),iW (fw0 l.z3),iW (fw1 l.z3),iW (fw2 l.z3),iW (fw3 l.z3)] 198)] (aG #[iW (fw0 (lS l)),iW (fw1 (lS l)),iW (fw2 (lS l)),iW (fw3 (lS l))]),pda=pda,(#[iW (fw0 (lDA l)),iW (fw1 (lDA l)),iW (fw2 (lDA l)),iW (fw3 (lDA l))]:Array Value).size=4,pcb=pcb,(#[iW (fw0 (lCB l)),iW (fw1 (lCB l)),iW (fw2 (lCB l)),iW (fw3 (lCB l))]:Array Value).size=4,CallP Tryz.prog 137 [aG #[iW (fw0 (lDA l)),iW (fw1 (lDA l)),iW (fw2 (lDA l)),iW (fw3 (lDA l))],aG #[iW (fw0 (lCB l)),iW (fw1 (lCB l)),iW (fw2 (lCB l)),iW (fw3 (lCB l))]] [] (aG #[iW (fw0 (lL l)),iW (fw1 (lL l)),iW (fw2 (lL l)),iW (fw3 (lL l))])]) (fun nb Kt=>(nb 7)=(nb 7)∧(#[iW 0,iW 0,iW 0,iW 0]:Array Value).size=4∧(#[iW (fw0 (lS l)),iW (fw1 (lS l)),iW (fw2 (lS l)),iW (fw3 (lS l))]:Array Value).size=4∧(#[iW (fw0 (lS l)),iW (fw1 (lS l)),iW (fw2 (lS l)),iW (fw3 (lS l))]:Array Value).all (·.oneCell')=true∧(0,0).2=0∧(nb 8)=(nb 8)∧(#[iW 0,iW 0,iW 0,iW 0]:Array Value).size=4∧(#[iW (fw0 (lL l)),iW (fw1 (lL l)),iW (fw2 (lL l)),iW (fw3 (lL l))]:Array Value).size=4∧(#[iW (fw0 (lL l)),iW (fw1 (lL l)),iW (fw2 (lL l)),iW (fw3 (lL l))]:Array Value).all (·.oneCell')=true∧(0,0).2=0∧Kt [(13,pT (nb 8)),(12,pT (nb 7)),(11,pT pcb),(10,pT pda),(9,pT pe),(8,pT pbb),(7,pT paa),(6,pT pb),(5,pT pa),(4,pT br),(3,pT bu),(2,pT bl)] [((nb 7),oC #[iW (fw0 (lS l)),iW (fw1 (lS l)),iW (fw2 (lS l)),iW (fw3 (lS l))] 194),((nb 8),oC #[iW (fw0 (lL l)),iW (fw1 (lL l)),iW (fw2 (lL l)),iW (fw3 (lL l))] 194),(pcb,oC #[iW (fw0 (lCB l)),iW (fw1 (lCB l)),iW (fw2 (lCB l)),iW (fw3 (lCB l))] 194),(pda,oC #[iW (fw0 (lDA l)),iW (fw1 (lDA l)),iW (fw2 (lDA l)),iW (fw3 (lDA l))] 194),(pe,oC #[iW (fw0 (lE l)),iW (fw1 (lE l)),iW (fw2 (lE l)),iW (fw3 (lE l))] 194),(paa,oC #[iW (fw0 (lAA l)),iW (fw1 (lAA l)),iW (fw2 (lAA l)),iW (fw3 (lAA l))] 194),(pbb,oC #[iW (fw0 (lBB l)),iW (fw1 (lBB l)),iW (fw2 (lBB l)),iW (fw3 (lBB l))] 194),(pa,oC #[iW (fw0 (lA l)),iW (fw1 (lA l)),iW (fw2 (lA l)),iW (fw3 (lA l))] 194),(pb,oC #[iW (fw0 (lB l)),iW (fw1 (lB l)),iW (fw2 (lB l)),iW (fw3 (lB l))] 194),(br,oC #[iW 0,iW 0,iW 0,iW 0,iW 0,iW 0,iW 0,iW 0,iW 0,iW 0,iW 0,iW 0,iW 0,iW 0,iW 0,iW 0] 198),(bu,oC #[iW (fw0 u),iW (fw1 u),iW (fw2 u),iW (fw3 u)] 194),(bl,oC #[iW (fw0 l.x2),iW (fw1 l.x2),iW (fw2 l.x2),iW (fw3 l.x2),iW (fw0 l.z2),iW (fw1 l.z2),iW (fw2 l.z2),iW (fw3 l.z2),iW (fw0 l.x3),iW (fw1 l.x3),iW (fw2 l.x3),iW (fw3 l.x3),iW (fw0 l.z3),iW (fw1 l.z3),iW (fw2 l.z3),iW (fw3 l.z3)] 198)]) (by kernel_rfl) (by kernel_rfl) (by kernel_rfl) (fun _=>by kernel_rfl) (fun _ _=>by kernel_rfl) ⟨⟨_,rfl⟩,rfl,⟨⟨_,rfl⟩,rfl,trivial⟩⟩ (fun nb=>⟨rfl,rfl,rfl,rfl,⟨en_fAdd,fun w Hw=>fadd2 (lDA l) (lCB l) (lS l) (nb 2) _ (mN_lt _ _) (mN_lt _ _) rfl w (Hw 0 _ rfl)⟩,rfl,rfl,rfl,rfl,(cP en_fSub (fsub2 (lDA l) (lCB l) (lL l) (mN_lt _ _) (mN_lt _ _) rfl) _),trivial⟩) (fun nb=>⟨rfl,rfl,rfl,(by kernel_rfl),rfl,rfl,rfl,rfl,(by kernel_rfl),rfl,fun _ _ FF7 MM7=>tN ?_⟩))
 generalize nb 7=ps at *
 generalize nb 8=pl at *
 refine wp_seq (rg_draw FF7 MM7 [.inl (aG #[iW (fw0 (lAA l)),iW (fw1 (lAA l)),iW (fw2 (lAA l)),iW (fw3 (lAA l))]),.inl (aG #[iW (fw0 (lBB l)),iW (fw1 (lBB l)),iW (fw2 (lBB l)),iW (fw3 (lBB l))]),.inr (oC #[iW (fw0 (lAA l)),iW (fw1 (lAA l)),iW (fw2 (lAA l)),iW (fw3 (lAA l)),iW (fw0 (lBB l)),iW (fw1 (lBB l)),iW (fw2 (lBB l)),iW (fw3 (lBB l))] 194,fun b=>.slice (some ⟨b,0,none⟩) 2 2),.inl (aG #[iW (fw0 (mN (lAA l) (lBB l))),iW (fw1 (mN (lAA l) (lBB l))),iW (fw2 (mN (lAA l) (lBB l))),iW (fw3 (mN (lAA l) (lBB l)))]),.inl (aG #[iW (fw0 (lE l)),iW (fw1 (lE l)),iW (fw2 (lE l)),iW (fw3 (lE l))]),.inl (aG #[iW (fw0 (lAA l)),iW (fw1 (lAA l)),iW (fw2 (lAA l)),iW (fw3 (lAA l))]),.inl (aG #[iW (fw0 121665),iW (fw1 121665),iW (fw2 121665),iW (fw3 121665)]),.inl (aG #[iW (fw0 (lE l)),iW (fw1 (lE l)),iW (fw2 (lE l)),iW (fw3 (lE l))]),.inr (oC #[iW (fw0 121665),iW (fw1 121665),iW (fw2 121665),iW (fw3 121665),iW (fw0 (lE l)),iW (fw1 (lE l)),iW (fw2 (lE l)),iW (fw3 (lE l))] 194,fun b=>.slice (some ⟨b,0,none⟩) 2 2),.inl (aG #[iW (fw0 (mN 121665 (lE l))),iW (fw1 (mN 121665 (lE l))),iW (fw2 (mN 121665 (lE l))),iW (fw3 (mN 121665 (lE l)))]),.inr (oC #[iW (fw0 (lAA l)),iW (fw1 (lAA l)),iW (fw2 (lAA l)),iW (fw3 (lAA l)),iW (fw0 (mN 121665 (lE l))),iW (fw1 (mN 121665 (lE l))),iW (fw2 (mN 121665 (lE l))),iW (fw3 (mN 121665 (lE l)))] 194,fun b=>.slice (some ⟨b,0,none⟩) 2 2),.inl (aG #[iW (fw0 (aN (lAA l) (mN 121665 (lE l)))),iW (fw1 (aN (lAA l) (mN 121665 (lE l)))),iW (fw2 (aN (lAA l) (mN 121665 (lE l)))),iW (fw3 (aN (lAA l) (mN 121665 (lE l))))]),.inr (oC #[iW (fw0 (lE l)),iW (fw1 (lE l)),iW (fw2 (lE l)),iW (fw3 (lE l)),iW (fw0 (aN (lAA l) (mN 121665 (lE l)))),iW (fw1 (aN (lAA l) (mN 121665 (lE l)))),iW (fw2 (aN (lAA l) (mN 121665 (lE l)))),iW (fw3 (aN (lAA l) (mN 121665 (lE l))))] 194,fun b=>.slice (some ⟨b,0,none⟩) 2 2),.inl (aG #[iW (fw0 (mN (lE l) (aN (lAA l) (mN 121665 (lE l))))),iW (fw1 (mN (lE l) (aN (lAA l) (mN 121665 (lE l))))),iW (fw2 (mN (lE l) (aN (lAA l) (mN 121665 (lE l))))),iW (fw3 (mN (lE l) (aN (lAA l) (mN 121665 (lE l)))))]),.inl (aG #[iW (fw0 (lS l)),iW (fw1 (lS l)),iW (fw2 (lS l)),iW (fw3 (lS l))]),.inl (aG #[iW (fw0 (lS l)),iW (fw1 (lS l)),iW (fw2 (lS l)),iW (fw3 (lS l))]),.inr (oC #[iW (fw0 (lS l)),iW (fw1 (lS l)),iW (fw2 (lS l)),iW (fw3 (lS l)),iW (fw0 (lS l)),iW (fw1 (lS l)),iW (fw2 (lS l)),iW (fw3 (lS l))] 194,fun b=>.slice (some ⟨b,0,none⟩) 2 2),.inl (aG #[iW (fw0 (mN (lS l) (lS l))),iW (fw1 (mN (lS l) (lS l))),iW (fw2 (mN (lS l) (lS l))),iW (fw3 (mN (lS l) (lS l)))]),.inl (aG #[iW (fw0 u),iW (fw1 u),iW (fw2 u),iW (fw3 u)]),.inl (aG #[iW (fw0 (lL l)),iW (fw1 (lL l)),iW (fw2 (lL l)),iW (fw3 (lL l))]),.inl (aG #[iW (fw0 (lL l)),iW (fw1 (lL l)),iW (fw2 (lL l)),iW (fw3 (lL l))]),.inr (oC #[iW (fw0 u),iW (fw1 u),iW (fw2 u),iW (fw3 u),iW (fw0 (lL l)),iW (fw1 (lL l)),iW (fw2 (lL l)),iW (fw3 (lL l)),iW (fw0 (lL l)),iW (fw1 (lL l)),iW (fw2 (lL l)),iW (fw3 (lL l))] 194,fun b=>.slice (some ⟨b,0,none⟩) 3 3),.inl (aG #[iW (fw0 (mN (mN u (lL l)) (lL l))),iW (fw1 (mN (mN u (lL l)) (lL l))),iW (fw2 (mN (mN u (lL l)) (lL l))),iW (fw3 (mN (mN u (lL l)) (lL l)))]),.inl (aG #[iW (fw0 (mN (lAA l) (lBB l))),iW (fw1 (mN (lAA l) (lBB l))),iW (fw2 (mN (lAA l) (lBB l))),iW (fw3 (mN (lAA l) (lBB l))),iW (fw0 (mN (lE l) (aN (lAA l) (mN 121665 (lE l))))),iW (fw1 (mN (lE l) (aN (lAA l) (mN 121665 (lE l))))),iW (fw2 (mN (lE l) (aN (lAA l) (mN 121665 (lE l))))),iW (fw3 (mN (lE l) (aN (lAA l) (mN 121665 (lE l))))),iW (fw0 (mN (lS l) (lS l))),iW (fw1 (mN (lS l) (lS l))),iW (fw2 (mN (lS l) (lS l))),iW (fw3 (mN (lS l) (lS l))),iW (fw0 (mN (mN u (lL l)) (lL l))),iW (fw1 (mN (mN u (lL l)) (lL l))),iW (fw2 (mN (mN u (lL l)) (lL l))),iW (fw3 (mN (mN u (lL l)) (lL l)))])] [] [b_ 5,b_ 6,o_,u_ 1 (aG #[iW (fw0 (mN (lAA l) (lBB l))),iW (fw1 (mN (lAA l) (lBB l))),iW (fw2 (mN (lAA l) (lBB l))),iW (fw3 (mN (lAA l) (lBB l)))]),b_ 4,b_ 5,t_ (aG #[iW (fw0 121665),iW (fw1 121665),iW (fw2 121665),iW (fw3 121665)]),b_ 4,o_,u_ 1 (aG #[iW (fw0 (mN 121665 (lE l))),iW (fw1 (mN 121665 (lE l))),iW (fw2 (mN 121665 (lE l))),iW (fw3 (mN 121665 (lE l)))]),o_,u_ 1 (aG #[iW (fw0 (aN (lAA l) (mN 121665 (lE l)))),iW (fw1 (aN (lAA l) (mN 121665 (lE l)))),iW (fw2 (aN (lAA l) (mN 121665 (lE l)))),iW (fw3 (aN (lAA l) (mN 121665 (lE l))))]),o_,u_ 1 (aG #[iW (fw0 (mN (lE l) (aN (lAA l) (mN 121665 (lE l))))),iW (fw1 (mN (lE l) (aN (lAA l) (mN 121665 (lE l))))),iW (fw2 (mN (lE l) (aN (lAA l) (mN 121665 (lE l))))),iW (fw3 (mN (lE l) (aN (lAA l) (mN 121665 (lE l)))))]),b_ 0,b_ 0,o_,u_ 1 (aG #[iW (fw0 (mN (lS l) (lS l))),iW (fw1 (mN (lS l) (lS l))),iW (fw2 (mN (lS l) (lS l))),iW (fw3 (mN (lS l) (lS l)))]),b_ 10,b_ 1,b_ 1,o_,u_ 1 (aG #[iW (fw0 (mN (mN u (lL l)) (lL l))),iW (fw1 (mN (mN u (lL l)) (lL l))),iW (fw2 (mN (mN u (lL l)) (lL l))),iW (fw3 (mN (mN u (lL l)) (lL l)))]),o_] [b_ 9] [13,12,11,10,9,8,7,6,5,4,2] (fun nb=>[paa=paa,(#[iW (fw0 (lAA l)),iW (fw1 (lAA l)),iW (fw2 (lAA l)),iW (fw3 (lAA l))]:Array Value).size=4,pbb=pbb,(#[iW (fw0 (lBB l)),iW (fw1 (lBB l)),iW (fw2 (lBB l)),iW (fw3 (lBB l))]:Array Value).size=4,CallP Tryz.prog 107 [.slice (some ⟨(nb 2),0,none⟩) 2 2] [((nb 2),oC #[iW (fw0 (lAA l)),iW (fw1 (lAA l)),iW (fw2 (lAA l)),iW (fw3 (lAA l)),iW (fw0 (lBB l)),iW (fw1 (lBB l)),iW (fw2 (lBB l)),iW (fw3 (lBB l))] 194),(ps,oC #[iW (fw0 (lS l)),iW (fw1 (lS l)),iW (fw2 (lS l)),iW (fw3 (lS l))] 194),(pl,oC #[iW (fw0 (lL l)),iW (fw1 (lL l)),iW (fw2 (lL l)),iW (fw3 (lL l))] 194),(pcb,oC #[iW (fw0 (lCB l)),iW (fw1 (lCB l)),iW (fw2 (lCB l)),iW (fw3 (lCB l))] 194),(pda,oC #[iW (fw0 (lDA l)),iW (fw1 (lDA l)),iW (fw2 (lDA l)),iW (fw3 (lDA l))] 194),(pe,oC #[iW (fw0 (lE l)),iW (fw1 (lE l)),iW (fw2 (lE l)),iW (fw3 (lE l))] 194),(paa,oC #[iW (fw0 (lAA l)),iW (fw1 (lAA l)),iW (fw2 (lAA l)),iW (fw3 (lAA l))] 194),(pbb,oC #[iW (fw0 (lBB l)),iW (fw1 (lBB l)),iW (fw2 (lBB l)),iW (fw3 (lBB l))] 194),(pa,oC #[iW (fw0 (lA l)),iW (fw1 (lA l)),iW (fw2 (lA l)),iW (fw3 (lA l))] 194),(pb,oC #[iW (fw0 (lB l)),iW (fw1 (lB l)),iW (fw2 (lB l)),iW (fw3 (lB l))] 194),(br,oC #[iW 0,iW 0,iW 0,iW 0,iW 0,iW 0,iW 0,iW 0,iW 0,iW 0,iW 0,iW 0,iW 0,iW 0,iW 0,iW 0] 198),(bu,oC #[iW (fw0 u),iW (fw1 u),iW (fw2 u),iW (fw3 u)] 194),(bl,oC #[iW (fw0 l.x2),iW (fw1 l.x2),iW (fw2 l.x2),iW (fw3 l.x2),iW (fw0 l.z2),iW (fw1 l.z2),iW (fw2 l.z2),iW (fw3 l.z2),iW (fw0 l.x3),iW (fw1 l.x3),iW (fw2 l.x3),iW (fw3 l.x3),iW (fw0 l.z3),iW (fw1 l.z3),iW (fw2 l.z3),iW (fw3 l.z3)] 198)] (aG #[iW (fw0 (mN (lAA l) (lBB l))),iW (fw1 (mN (lAA l) (lBB l))),iW (fw2 (mN (lAA l) (lBB l))),iW (fw3 (mN (lAA l) (lBB l)))]),pe=pe,(#[iW (fw0 (lE l)),iW (fw1 (lE l)),iW (fw2 (lE l)),iW (fw3 (lE l))]:Array Value).size=4,paa=paa,(#[iW (fw0 (lAA l)),iW (fw1 (lAA l)),iW (fw2 (lAA l)),iW (fw3 (lAA l))]:Array Value).size=4,CallP Tryz.prog 104 [iW 121665] [] (aG #[iW (fw0 121665),iW (fw1 121665),iW (fw2 121665),iW (fw3 121665)]),pe=pe,(#[iW (fw0 (lE l)),iW (fw1 (lE l)),iW (fw2 (lE l)),iW (fw3 (lE l))]:Array Value).size=4,CallP Tryz.prog 107 [.slice (some ⟨(nb 8),0,none⟩) 2 2] [((nb 8),oC #[iW (fw0 121665),iW (fw1 121665),iW (fw2 121665),iW (fw3 121665),iW (fw0 (lE l)),iW (fw1 (lE l)),iW (fw2 (lE l)),iW (fw3 (lE l))] 194),(ps,oC #[iW (fw0 (lS l)),iW (fw1 (lS l)),iW (fw2 (lS l)),iW (fw3 (lS l))] 194),(pl,oC #[iW (fw0 (lL l)),iW (fw1 (lL l)),iW (fw2 (lL l)),iW (fw3 (lL l))] 194),(pcb,oC #[iW (fw0 (lCB l)),iW (fw1 (lCB l)),iW (fw2 (lCB l)),iW (fw3 (lCB l))] 194),(pda,oC #[iW (fw0 (lDA l)),iW (fw1 (lDA l)),iW (fw2 (lDA l)),iW (fw3 (lDA l))] 194),(pe,oC #[iW (fw0 (lE l)),iW (fw1 (lE l)),iW (fw2 (lE l)),iW (fw3 (lE l))] 194),(paa,oC #[iW (fw0 (lAA l)),iW (fw1 (lAA l)),iW (fw2 (lAA l)),iW (fw3 (lAA l))] 194),(pbb,oC #[iW (fw0 (lBB l)),iW (fw1 (lBB l)),iW (fw2 (lBB l)),iW (fw3 (lBB l))] 194),(pa,oC #[iW (fw0 (lA l)),iW (fw1 (lA l)),iW (fw2 (lA l)),iW (fw3 (lA l))] 194),(pb,oC #[iW (fw0 (lB l)),iW (fw1 (lB l)),iW (fw2 (lB l)),iW (fw3 (lB l))] 194),(br,oC #[iW 0,iW 0,iW 0,iW 0,iW 0,iW 0,iW 0,iW 0,iW 0,iW 0,iW 0,iW 0,iW 0,iW 0,iW 0,iW 0] 198),(bu,oC #[iW (fw0 u),iW (fw1 u),iW (fw2 u),iW (fw3 u)] 194),(bl,oC #[iW (fw0 l.x2),iW (fw1 l.x2),iW (fw2 l.x2),iW (fw3 l.x2),iW (fw0 l.z2),iW (fw1 l.z2),iW (fw2 l.z2),iW (fw3 l.z2),iW (fw0 l.x3),iW (fw1 l.x3),iW (fw2 l.x3),iW (fw3 l.x3),iW (fw0 l.z3),iW (fw1 l.z3),iW (fw2 l.z3),iW (fw3 l.z3)] 198)] (aG #[iW (fw0 (mN 121665 (lE l))),iW (fw1 (mN 121665 (lE l))),iW (fw2 (mN 121665 (lE l))),iW (fw3 (mN 121665 (lE l)))]),CallP Tryz.prog 136 [.slice (some ⟨(nb 10),0,none⟩) 2 2] [((nb 10),oC #[iW (fw0 (lAA l)),iW (fw1 (lAA l)),iW (fw2 (lAA l)),iW (fw3 (lAA l)),iW (fw0 (mN 121665 (lE l))),iW (fw1 (mN 121665 (lE l))),iW (fw2 (mN 121665 (lE l))),iW (fw3 (mN 121665 (lE l)))] 194),(ps,oC #[iW (fw0 (lS l)),iW (fw1 (lS l)),iW (fw2 (lS l)),iW (fw3 (lS l))] 194),(pl,oC #[iW (fw0 (lL l)),iW (fw1 (lL l)),iW (fw2 (lL l)),iW (fw3 (lL l))] 194),(pcb,oC #[iW (fw0 (lCB l)),iW (fw1 (lCB l)),iW (fw2 (lCB l)),iW (fw3 (lCB l))] 194),(pda,oC #[iW (fw0 (lDA l)),iW (fw1 (lDA l)),iW (fw2 (lDA l)),iW (fw3 (lDA l))] 194),(pe,oC #[iW (fw0 (lE l)),iW (fw1 (lE l)),iW (fw2 (lE l)),iW (fw3 (lE l))] 194),(paa,oC #[iW (fw0 (lAA l)),iW (fw1 (lAA l)),iW (fw2 (lAA l)),iW (fw3 (lAA l))] 194),(pbb,oC #[iW (fw0 (lBB l)),iW (fw1 (lBB l)),iW (fw2 (lBB l)),iW (fw3 (lBB l))] 194),(pa,oC #[iW (fw0 (lA l)),iW (fw1 (lA l)),iW (fw2 (lA l)),iW (fw3 (lA l))] 194),(pb,oC #[iW (fw0 (lB l)),iW (fw1 (lB l)),iW (fw2 (lB l)),iW (fw3 (lB l))] 194),(br,oC #[iW 0,iW 0,iW 0,iW 0,iW 0,iW 0,iW 0,iW 0,iW 0,iW 0,iW 0,iW 0,iW 0,iW 0,iW 0,iW 0] 198),(bu,oC #[iW (fw0 u),iW (fw1 u),iW (fw2 u),iW (fw3 u)] 194),(bl,oC #[iW (fw0 l.x2),iW (fw1 l.x2),iW (fw2 l.x2),iW (fw3 l.x2),iW (fw0 l.z2),iW (fw1 l.z2),iW (fw2 l.z2),iW (fw3 l.z2),iW (fw0 l.x3),iW (fw1 l.x3),iW (fw2 l.x3),iW (fw3 l.x3),iW (fw0 l.z3),iW (fw1 l.z3),iW (fw2 l.z3),iW (fw3 l.z3)] 198)] (aG #[iW (fw0 (aN (lAA l) (mN 121665 (lE l)))),iW (fw1 (aN (lAA l) (mN 121665 (lE l)))),iW (fw2 (aN (lAA l) (mN 121665 (lE l)))),iW (fw3 (aN (lAA l) (mN 121665 (lE l))))]),CallP Tryz.prog 107 [.slice (some ⟨(nb 12),0,none⟩) 2 2] [((nb 12),oC #[iW (fw0 (lE l)),iW (fw1 (lE l)),iW (fw2 (lE l)),iW (fw3 (lE l)),iW (fw0 (aN (lAA l) (mN 121665 (lE l)))),iW (fw1 (aN (lAA l) (mN 121665 (lE l)))),iW (fw2 (aN (lAA l) (mN 121665 (lE l)))),iW (fw3 (aN (lAA l) (mN 121665 (lE l))))] 194),(ps,oC #[iW (fw0 (lS l)),iW (fw1 (lS l)),iW (fw2 (lS l)),iW (fw3 (lS l))] 194),(pl,oC #[iW (fw0 (lL l)),iW (fw1 (lL l)),iW (fw2 (lL l)),iW (fw3 (lL l))] 194),(pcb,oC #[iW (fw0 (lCB l)),iW (fw1 (lCB l)),iW (fw2 (lCB l)),iW (fw3 (lCB l))] 194),(pda,oC #[iW (fw0 (lDA l)),iW (fw1 (lDA l)),iW (fw2 (lDA l)),iW (fw3 (lDA l))] 194),(pe,oC #[iW (fw0 (lE l)),iW (fw1 (lE l)),iW (fw2 (lE l)),iW (fw3 (lE l))] 194),(paa,oC #[iW (fw0 (lAA l)),iW (fw1 (lAA l)),iW (fw2 (lAA l)),iW (fw3 (lAA l))] 194),(pbb,oC #[iW (fw0 (lBB l)),iW (fw1 (lBB l)),iW (fw2 (lBB l)),iW (fw3 (lBB l))] 194),(pa,oC #[iW (fw0 (lA l)),iW (fw1 (lA l)),iW (fw2 (lA l)),iW (fw3 (lA l))] 194),(pb,oC #[iW (fw0 (lB l)),iW (fw1 (lB l)),iW (fw2 (lB l)),iW (fw3 (lB l))] 194),(br,oC #[iW 0,iW 0,iW 0,iW 0,iW 0,iW 0,iW 0,iW 0,iW 0,iW 0,iW 0,iW 0,iW 0,iW 0,iW 0,iW 0] 198),(bu,oC #[iW (fw0 u),iW (fw1 u),iW (fw2 u),iW (fw3 u)] 194),(bl,oC #[iW (fw0 l.x2),iW (fw1 l.x2),iW (fw2 l.x2),iW (fw3 l.x2),iW (fw0 l.z2),iW (fw1 l.z2),iW (fw2 l.z2),iW (fw3 l.z2),iW (fw0 l.x3),iW (fw1 l.x3),iW (fw2 l.x3),iW (fw3 l.x3),iW (fw0 l.z3),iW (fw1 l.z3),iW (fw2 l.z3),iW (fw3 l.z3)] 198)] (aG #[iW (fw0 (mN (lE l) (aN (lAA l) (mN 121665 (lE l))))),iW (fw1 (mN (lE l) (aN (lAA l) (mN 121665 (lE l))))),iW (fw2 (mN (lE l) (aN (lAA l) (mN 121665 (lE l))))),iW (fw3 (mN (lE l) (aN (lAA l) (mN 121665 (lE l)))))]),ps=ps,(#[iW (fw0 (lS l)),iW (fw1 (lS l)),iW (fw2 (lS l)),iW (fw3 (lS l))]:Array Value).size=4,ps=ps,(#[iW (fw0 (lS l)),iW (fw1 (lS l)),iW (fw2 (lS l)),iW (fw3 (lS l))]:Array Value).size=4,CallP Tryz.prog 107 [.slice (some ⟨(nb 16),0,none⟩) 2 2] [((nb 16),oC #[iW (fw0 (lS l)),iW (fw1 (lS l)),iW (fw2 (lS l)),iW (fw3 (lS l)),iW (fw0 (lS l)),iW (fw1 (lS l)),iW (fw2 (lS l)),iW (fw3 (lS l))] 194),(ps,oC #[iW (fw0 (lS l)),iW (fw1 (lS l)),iW (fw2 (lS l)),iW (fw3 (lS l))] 194),(pl,oC #[iW (fw0 (lL l)),iW (fw1 (lL l)),iW (fw2 (lL l)),iW (fw3 (lL l))] 194),(pcb,oC #[iW (fw0 (lCB l)),iW (fw1 (lCB l)),iW (fw2 (lCB l)),iW (fw3 (lCB l))] 194),(pda,oC #[iW (fw0 (lDA l)),iW (fw1 (lDA l)),iW (fw2 (lDA l)),iW (fw3 (lDA l))] 194),(pe,oC #[iW (fw0 (lE l)),iW (fw1 (lE l)),iW (fw2 (lE l)),iW (fw3 (lE l))] 194),(paa,oC #[iW (fw0 (lAA l)),iW (fw1 (lAA l)),iW (fw2 (lAA l)),iW (fw3 (lAA l))] 194),(pbb,oC #[iW (fw0 (lBB l)),iW (fw1 (lBB l)),iW (fw2 (lBB l)),iW (fw3 (lBB l))] 194),(pa,oC #[iW (fw0 (lA l)),iW (fw1 (lA l)),iW (fw2 (lA l)),iW (fw3 (lA l))] 194),(pb,oC #[iW (fw0 (lB l)),iW (fw1 (lB l)),iW (fw2 (lB l)),iW (fw3 (lB l))] 194),(br,oC #[iW 0,iW 0,iW 0,iW 0,iW 0,iW 0,iW 0,iW 0,iW 0,iW 0,iW 0,iW 0,iW 0,iW 0,iW 0,iW 0] 198),(bu,oC #[iW (fw0 u),iW (fw1 u),iW (fw2 u),iW (fw3 u)] 194),(bl,oC #[iW (fw0 l.x2),iW (fw1 l.x2),iW (fw2 l.x2),iW (fw3 l.x2),iW (fw0 l.z2),iW (fw1 l.z2),iW (fw2 l.z2),iW (fw3 l.z2),iW (fw0 l.x3),iW (fw1 l.x3),iW (fw2 l.x3),iW (fw3 l.x3),iW (fw0 l.z3),iW (fw1 l.z3),iW (fw2 l.z3),iW (fw3 l.z3)] 198)] (aG #[iW (fw0 (mN (lS l) (lS l))),iW (fw1 (mN (lS l) (lS l))),iW (fw2 (mN (lS l) (lS l))),iW (fw3 (mN (lS l) (lS l)))]),bu=bu,(#[iW (fw0 u),iW (fw1 u),iW (fw2 u),iW (fw3 u)]:Array Value).size=4,pl=pl,(#[iW (fw0 (lL l)),iW (fw1 (lL l)),iW (fw2 (lL l)),iW (fw3 (lL l))]:Array Value).size=4,pl=pl,(#[iW (fw0 (lL l)),iW (fw1 (lL l)),iW (fw2 (lL l)),iW (fw3 (lL l))]:Array Value).size=4,CallP Tryz.prog 107 [.slice (some ⟨(nb 21),0,none⟩) 3 3] [((nb 21),oC #[iW (fw0 u),iW (fw1 u),iW (fw2 u),iW (fw3 u),iW (fw0 (lL l)),iW (fw1 (lL l)),iW (fw2 (lL l)),iW (fw3 (lL l)),iW (fw0 (lL l)),iW (fw1 (lL l)),iW (fw2 (lL l)),iW (fw3 (lL l))] 194),(ps,oC #[iW (fw0 (lS l)),iW (fw1 (lS l)),iW (fw2 (lS l)),iW (fw3 (lS l))] 194),(pl,oC #[iW (fw0 (lL l)),iW (fw1 (lL l)),iW (fw2 (lL l)),iW (fw3 (lL l))] 194),(pcb,oC #[iW (fw0 (lCB l)),iW (fw1 (lCB l)),iW (fw2 (lCB l)),iW (fw3 (lCB l))] 194),(pda,oC #[iW (fw0 (lDA l)),iW (fw1 (lDA l)),iW (fw2 (lDA l)),iW (fw3 (lDA l))] 194),(pe,oC #[iW (fw0 (lE l)),iW (fw1 (lE l)),iW (fw2 (lE l)),iW (fw3 (lE l))] 194),(paa,oC #[iW (fw0 (lAA l)),iW (fw1 (lAA l)),iW (fw2 (lAA l)),iW (fw3 (lAA l))] 194),(pbb,oC #[iW (fw0 (lBB l)),iW (fw1 (lBB l)),iW (fw2 (lBB l)),iW (fw3 (lBB l))] 194),(pa,oC #[iW (fw0 (lA l)),iW (fw1 (lA l)),iW (fw2 (lA l)),iW (fw3 (lA l))] 194),(pb,oC #[iW (fw0 (lB l)),iW (fw1 (lB l)),iW (fw2 (lB l)),iW (fw3 (lB l))] 194),(br,oC #[iW 0,iW 0,iW 0,iW 0,iW 0,iW 0,iW 0,iW 0,iW 0,iW 0,iW 0,iW 0,iW 0,iW 0,iW 0,iW 0] 198),(bu,oC #[iW (fw0 u),iW (fw1 u),iW (fw2 u),iW (fw3 u)] 194),(bl,oC #[iW (fw0 l.x2),iW (fw1 l.x2),iW (fw2 l.x2),iW (fw3 l.x2),iW (fw0 l.z2),iW (fw1 l.z2),iW (fw2 l.z2),iW (fw3 l.z2),iW (fw0 l.x3),iW (fw1 l.x3),iW (fw2 l.x3),iW (fw3 l.x3),iW (fw0 l.z3),iW (fw1 l.z3),iW (fw2 l.z3),iW (fw3 l.z3)] 198)] (aG #[iW (fw0 (mN (mN u (lL l)) (lL l))),iW (fw1 (mN (mN u (lL l)) (lL l))),iW (fw2 (mN (mN u (lL l)) (lL l))),iW (fw3 (mN (mN u (lL l)) (lL l)))])]) (fun nb Kt=>br=br∧(#[iW 0,iW 0,iW 0,iW 0,iW 0,iW 0,iW 0,iW 0,iW 0,iW 0,iW 0,iW 0,iW 0,iW 0,iW 0,iW 0]:Array Value).size=16∧(#[iW (fw0 (mN (lAA l) (lBB l))),iW (fw1 (mN (lAA l) (lBB l))),iW (fw2 (mN (lAA l) (lBB l))),iW (fw3 (mN (lAA l) (lBB l))),iW (fw0 (mN (lE l) (aN (lAA l) (mN 121665 (lE l))))),iW (fw1 (mN (lE l) (aN (lAA l) (mN 121665 (lE l))))),iW (fw2 (mN (lE l) (aN (lAA l) (mN 121665 (lE l))))),iW (fw3 (mN (lE l) (aN (lAA l) (mN 121665 (lE l))))),iW (fw0 (mN (lS l) (lS l))),iW (fw1 (mN (lS l) (lS l))),iW (fw2 (mN (lS l) (lS l))),iW (fw3 (mN (lS l) (lS l))),iW (fw0 (mN (mN u (lL l)) (lL l))),iW (fw1 (mN (mN u (lL l)) (lL l))),iW (fw2 (mN (mN u (lL l)) (lL l))),iW (fw3 (mN (mN u (lL l)) (lL l)))]:Array Value).size=16∧(#[iW (fw0 (mN (lAA l) (lBB l))),iW (fw1 (mN (lAA l) (lBB l))),iW (fw2 (mN (lAA l) (lBB l))),iW (fw3 (mN (lAA l) (lBB l))),iW (fw0 (mN (lE l) (aN (lAA l) (mN 121665 (lE l))))),iW (fw1 (mN (lE l) (aN (lAA l) (mN 121665 (lE l))))),iW (fw2 (mN (lE l) (aN (lAA l) (mN 121665 (lE l))))),iW (fw3 (mN (lE l) (aN (lAA l) (mN 121665 (lE l))))),iW (fw0 (mN (lS l) (lS l))),iW (fw1 (mN (lS l) (lS l))),iW (fw2 (mN (lS l) (lS l))),iW (fw3 (mN (lS l) (lS l))),iW (fw0 (mN (mN u (lL l)) (lL l))),iW (fw1 (mN (mN u (lL l)) (lL l))),iW (fw2 (mN (mN u (lL l)) (lL l))),iW (fw3 (mN (mN u (lL l)) (lL l)))]:Array Value).all (·.oneCell')=true∧(0,0).2=0∧Kt [(13,pT pl),(12,pT ps),(11,pT pcb),(10,pT pda),(9,pT pe),(8,pT pbb),(7,pT paa),(6,pT pb),(5,pT pa),(4,pT br),(2,pT bl)] [(ps,oC #[iW (fw0 (lS l)),iW (fw1 (lS l)),iW (fw2 (lS l)),iW (fw3 (lS l))] 194),(pl,oC #[iW (fw0 (lL l)),iW (fw1 (lL l)),iW (fw2 (lL l)),iW (fw3 (lL l))] 194),(pcb,oC #[iW (fw0 (lCB l)),iW (fw1 (lCB l)),iW (fw2 (lCB l)),iW (fw3 (lCB l))] 194),(pda,oC #[iW (fw0 (lDA l)),iW (fw1 (lDA l)),iW (fw2 (lDA l)),iW (fw3 (lDA l))] 194),(pe,oC #[iW (fw0 (lE l)),iW (fw1 (lE l)),iW (fw2 (lE l)),iW (fw3 (lE l))] 194),(paa,oC #[iW (fw0 (lAA l)),iW (fw1 (lAA l)),iW (fw2 (lAA l)),iW (fw3 (lAA l))] 194),(pbb,oC #[iW (fw0 (lBB l)),iW (fw1 (lBB l)),iW (fw2 (lBB l)),iW (fw3 (lBB l))] 194),(pa,oC #[iW (fw0 (lA l)),iW (fw1 (lA l)),iW (fw2 (lA l)),iW (fw3 (lA l))] 194),(pb,oC #[iW (fw0 (lB l)),iW (fw1 (lB l)),iW (fw2 (lB l)),iW (fw3 (lB l))] 194),(br,oC #[iW (fw0 (mN (lAA l) (lBB l))),iW (fw1 (mN (lAA l) (lBB l))),iW (fw2 (mN (lAA l) (lBB l))),iW (fw3 (mN (lAA l) (lBB l))),iW (fw0 (mN (lE l) (aN (lAA l) (mN 121665 (lE l))))),iW (fw1 (mN (lE l) (aN (lAA l) (mN 121665 (lE l))))),iW (fw2 (mN (lE l) (aN (lAA l) (mN 121665 (lE l))))),iW (fw3 (mN (lE l) (aN (lAA l) (mN 121665 (lE l))))),iW (fw0 (mN (lS l) (lS l))),iW (fw1 (mN (lS l) (lS l))),iW (fw2 (mN (lS l) (lS l))),iW (fw3 (mN (lS l) (lS l))),iW (fw0 (mN (mN u (lL l)) (lL l))),iW (fw1 (mN (mN u (lL l)) (lL l))),iW (fw2 (mN (mN u (lL l)) (lL l))),iW (fw3 (mN (mN u (lL l)) (lL l)))] 198),(bu,oC #[iW (fw0 u),iW (fw1 u),iW (fw2 u),iW (fw3 u)] 194),(bl,oC #[iW (fw0 l.x2),iW (fw1 l.x2),iW (fw2 l.x2),iW (fw3 l.x2),iW (fw0 l.z2),iW (fw1 l.z2),iW (fw2 l.z2),iW (fw3 l.z2),iW (fw0 l.x3),iW (fw1 l.x3),iW (fw2 l.x3),iW (fw3 l.x3),iW (fw0 l.z3),iW (fw1 l.z3),iW (fw2 l.z3),iW (fw3 l.z3)] 198)]) (by kernel_rfl) (by kernel_rfl) (by kernel_rfl) (fun _=>by kernel_rfl) (fun _ _=>by kernel_rfl) trivial (fun nb=>⟨rfl,rfl,rfl,rfl,⟨en_fMul,fun w Hw=>fmul2 (lAA l) (lBB l) (mN (lAA l) (lBB l)) (nb 2) _ (mN_lt _ _) (mN_lt _ _) rfl w (Hw 0 _ rfl)⟩,rfl,rfl,rfl,rfl,(cP en_fNum (fNum_any 121665 (by decide)) _),rfl,rfl,⟨en_fMul,fun w Hw=>fmul2 121665 (lE l) (mN 121665 (lE l)) (nb 8) _ (by decide) (sN_lt _ _) rfl w (Hw 0 _ rfl)⟩,⟨en_fAdd,fun w Hw=>fadd2 (lAA l) (mN 121665 (lE l)) (aN (lAA l) (mN 121665 (lE l))) (nb 10) _ (mN_lt _ _) (mN_lt _ _) rfl w (Hw 0 _ rfl)⟩,⟨en_fMul,fun w Hw=>fmul2 (lE l) (aN (lAA l) (mN 121665 (lE l))) (mN (lE l) (aN (lAA l) (mN 121665 (lE l)))) (nb 12) _ (sN_lt _ _) (aN_lt _ _) rfl w (Hw 0 _ rfl)⟩,rfl,rfl,rfl,rfl,⟨en_fMul,fun w Hw=>fmul2 (lS l) (lS l) (mN (lS l) (lS l)) (nb 16) _ (aN_lt _ _) (aN_lt _ _) rfl w (Hw 0 _ rfl)⟩,rfl,rfl,rfl,rfl,rfl,rfl,⟨en_fMul,fun w Hw=>fmul3 u (lL l) (lL l) (mN (mN u (lL l)) (lL l)) (nb 21) _ hu (sN_lt _ _) (sN_lt _ _) rfl w (Hw 0 _ rfl)⟩,trivial⟩) (fun nb=>⟨rfl,rfl,rfl,(by kernel_rfl),rfl,fun _ _ FF8 MM8=>tN ?_⟩))
 refine wp_ret ?_
 repeat first | refine tR ?_ | refine iR ?_
 exact(retc FF8 MM8 (k:=16) (i:=9) (j:=9) Tryz.results106 rfl rfl Tryz.underlying198 rfl (by kernel_rfl) rfl ⟨rfl,MM8.below⟩)
end Go.Proofs.YtdokjecjiifciaaGreatDoor
namespace Go.Proofs.YtdokjecjiifciaaGreatDoor
open Go.RowKit
section
variable {P:Program} {ops:Array Oper} {rest:List Oper} {op o:Oper} {a:Act} {w0 w w':World} {Q:Exit→Act→World→Prop} {n m:Nat} {l:Slots} {L O:Blks} {S:Nat→Prop} {R:List Row}
structure TurnB (N:Blks)(w w':World):Prop where
 os:w'.os=w.os
 tape:w'.tape=w.tape
 output:w'.output=w.output
 size:w.heap.size≤w'.heap.size
 block:∀k,k<w.heap.size→(∀x∈N,x.1≠k)→w'.heap[k]? = w.heap[k]?
 now:∀x∈N,w'.heap[x.1]? = some x.2
theorem MemS.turnB {L0:Blks}(N:Blks)(M:MemS (fun k=>k<w0.heap.size∧∀x∈L0,x.1≠k) w0 w L R)(H:Has w0 L0)(hN:∀x∈N,x∈L)(hO:∀x∈L0,x∈L∨∃y∈N,y.1=x.1):TurnB N w0 w:=by
 refine⟨M.os,M.tape,M.output,M.size,fun k hk hne=>?_,fun x hx=>Has.mem M.hasL (hN x hx)⟩
 by_cases h:∃x∈L0,x.1=k
 ·obtain⟨x,hx,rfl⟩:=h
  rcases hO x hx with h1 | ⟨y,hy,e⟩
  ·rw [Has.mem M.hasL h1,Has.mem H hx]
  ·exact(hne y hy e).elim
 ·exact M.block k ⟨hk,fun x hx e=>h ⟨x,hx,e⟩⟩
theorem TurnB.of_below {N:Blks}(h:Below w.heap.size w w')(hN:Has w N):TurnB N w w':=⟨h.os,h.tape,h.output,h.size,fun k hk _=>h.block k hk,fun x hx=>by
 have:=Has.mem hN hx
 exact(h.block x.1 (lt_of_block this)).trans this⟩
theorem TurnB.below (h:TurnB [] w w'):Below w.heap.size w w':=⟨h.os,h.tape,h.output,h.size,fun k hk=>h.block k hk fun _ hx=>(nomatch hx)⟩
theorem turnB_post {N:Blks}{us:List (Nat×Obj)}{v:Nat→Value}(t:TurnB N w w')(h1:∀u∈us,∀y,L[u.1]? = some y→(y.1,u.2)∈N)(h2:∀x∈N,∃u∈us,∃y,L[u.1]? = some y∧y.1=x.1):Post w w' L ⟨v,none,us⟩ 0:=
 ⟨t.os,t.tape,t.output,t.size,fun k hk hn=>t.block k hk fun x hx e=>by
  obtain⟨u,hu,y,hy,e'⟩:=h2 x hx
  exact hn u hu y hy (e'.trans e),fun _ h=>(nomatch h),fun _=>rfl,fun u hu y hy=>t.now _ (h1 u hu y hy)⟩
def nowAt (L:Blks):List (Nat×Obj)→Option Blks
 | []=>some []
 | u::r=>match L[u.1]?,nowAt L r with | some y,some N=>some ((y.1,u.2)::N) | _,_=>none
theorem nowAt_1:∀{us:List (Nat×Obj)} {N:Blks},nowAt L us=some N→∀u∈us,∀y,L[u.1]? = some y→(y.1,u.2)∈N
 | [],_,_,_,hu,_,_=>(nomatch hu)
 | v::r,N,h,u,hu,y,hy=>by
  unfold nowAt at h
  split at h
  ·rename_i z N' hz hN'
   obtain rfl:=Option.some.inj h
   rcases List.mem_cons.1 hu with rfl | hu
   ·rw [hz]at hy
    obtain rfl:=Option.some.inj hy
    exact List.mem_cons_self ..
   ·exact List.mem_cons_of_mem _ (nowAt_1 hN' u hu y hy)
  ·cases h
theorem nowAt_2:∀{us:List (Nat×Obj)} {N:Blks},nowAt L us=some N→∀x∈N,∃u∈us,∃y,L[u.1]? = some y∧y.1=x.1
 | [],N,h,x,hx=>by
  obtain rfl:=Option.some.inj h
  exact(nomatch hx)
 | v::r,N,h,x,hx=>by
  unfold nowAt at h
  split at h
  ·rename_i z N' hz hN'
   obtain rfl:=Option.some.inj h
   rcases List.mem_cons.1 hx with rfl | hx
   ·exact⟨v,List.mem_cons_self ..,z,hz,rfl⟩
   ·obtain⟨u,hu,q⟩:=nowAt_2 hN' x hx
    exact⟨u,List.mem_cons_of_mem _ hu,q⟩
  ·cases h
def atL (L:Blks):List Nat→Option Blks
 | []=>some []
 | i::r=>match L[i]?,atL L r with | some y,some N=>some (y::N) | _,_=>none
theorem atL_has:∀{is:List Nat} {K:Blks},atL L is=some K→Has w L→Has w K
 | [],K,h,_=>by
  obtain rfl:=Option.some.inj h
  exact fun i x hx=>by simp at hx
 | i::r,K,h,H=>by
  unfold atL at h
  split at h
  ·rename_i y N hy hN
   obtain rfl:=Option.some.inj h
   intro j x hx
   cases j with
   | zero=>simp at hx;subst hx;exact H i _ hy
   | succ j=>exact atL_has hN H j x (by simpa using hx)
  ·cases h
theorem callU_B {f:FuncId}{args:List Value}{v:Value}{us:List (Nat×Obj)}(is:List Nat){K N:Blks}(hE:Enters P f)(hK:atL L is=some K)(hN:nowAt L us=some N)(h:∀w,Has w K→Calls P f args.toArray w fun e w'=>e=.returned v∧TurnB N w w'):CallU P f args L v us:=
 ⟨hE,fun w H=>(h w (atL_has hK H)).mono fun _ _ ⟨h1,t⟩=>⟨h1,turnB_post t (nowAt_1 hN) (nowAt_2 hN)⟩⟩
theorem callP_B {f:FuncId}{args:List Value}{v:Value}(is:List Nat){K:Blks}(hE:Enters P f)(hK:atL L is=some K)(h:∀w,Has w K→Calls P f args.toArray w fun e w'=>e=.returned v∧TurnB [] w w'):CallP P f args L v:=
 ⟨hE,fun w H=>(h w (atL_has hK H)).mono fun _ _ ⟨h1,t⟩=>⟨h1,t.below⟩⟩
theorem MemS.distinct (M:MemS S w0 w L R):Distinct L:=by
 have:∀L:Blks,(∀(i j:Nat) (x y:Nat×Obj),L[i]? = some x→L[j]? = some y→i≠j→x.1≠y.1)→Distinct L:=fun L=>by
  induction L with
  | nil=>exact fun _=>trivial
  | cons x r ih=>
   refine fun h=>⟨fun y hy=>?_,ih fun i j a b ha hb hij=>h (i+1) (j+1) a b (by simpa using ha) (by simpa using hb) (by omega)⟩
   obtain⟨i,hi⟩:=List.mem_iff_getElem?.1 hy
   exact h (i+1) 0 y x (by simpa using hi) rfl (by omega)
 exact this L M.apart
theorem atL_mem:∀{is:List Nat} {K:Blks},atL L is=some K→∀y∈K,∃i∈is,L[i]? = some y
 | [],K,h,y,hy=>by
  obtain rfl:=Option.some.inj h
  exact(nomatch hy)
 | i::r,K,h,y,hy=>by
  unfold atL at h
  split at h
  ·rename_i z N hz hN
   obtain rfl:=Option.some.inj h
   rcases List.mem_cons.1 hy with rfl | hy
   ·exact⟨i,List.mem_cons_self ..,hz⟩
   ·obtain⟨j,hj,q⟩:=atL_mem hN y hy
    exact⟨j,List.mem_cons_of_mem _ hj,q⟩
  ·cases h
def apartB:List Nat→Bool
 | []=>true
 | i::r=>(r.all fun j=>!(Nat.beq i j))&&apartB r
theorem distinct_at (hd:Distinct L):∀{is:List Nat} {K:Blks},apartB is=true→atL L is=some K→Distinct K
 | [],K,_,h=>by
  obtain rfl:=Option.some.inj h
  trivial
 | i::r,K,hn,h=>by
  rw [apartB,Bool.and_eq_true,List.all_eq_true]at hn
  unfold atL at h
  split at h
  ·rename_i z N hz hN
   obtain rfl:=Option.some.inj h
   refine⟨fun y hy=>?_,distinct_at hd hn.2 hN⟩
   obtain⟨j,hj,q⟩:=atL_mem hN y hy
   refine hd.get j i y z q hz fun e=>?_
   subst e
   simpa using hn.1 j hj
  ·cases h
theorem dN:∀{K K':Blks},K.map (·.1)=K'.map (·.1)→Distinct K→Distinct K'
 | [],[],_,_=>trivial
 | [],_::_,h,_=>by cases h
 | _::_,[],h,_=>by cases h
 | x::r,y::s,h,⟨h1,h2⟩=>by
  simp only [List.map_cons,List.cons.injEq]at h
  refine⟨fun z hz=>?_,dN h.2 h2⟩
  have hm:z.1∈r.map (·.1):=h.2▸List.mem_map_of_mem hz
  obtain⟨u,hu,e⟩:=List.mem_map.1 hm
  rw [←h.1,←e]
  exact h1 u hu
theorem MemS.addAll (M:MemS S w0 w L R)(hB:Below w.heap.size w w'):∀{K:Blks},Has w' K→Distinct K→(∀x∈K,w.heap.size≤x.1)→MemS S w0 w' (K++L) R
 | [],_,_,_=>M.keep hB
 | x::r,H,hd,hf=>by
  have M':=MemS.addAll M hB (K:=r) (Has.tl H) hd.2 fun y hy=>hf y (List.mem_cons_of_mem _ hy)
  have h0:=hf x (List.mem_cons_self ..)
  refine M'.addBlk (H 0 x rfl) (fun y hy=>?_) (fun hs=>?_) (fun q hq g hg=>?_)
  ·rcases List.mem_append.1 hy with h | h
   ·exact hd.1 y h
   ·have:=lt_of_block (Has.mem M.hasL h)
    omega
  ·have:=M.old _ hs
   have:=M.size
   omega
  ·have:=(ownsRow_lt (M.rows q hq) hg).2
   omega
def Froz (base:Nat)(O' O:Blks)(v:Value)(e:TypeId)(k n:Nat)(X:List Value):Prop:=
 (v=.slice none 0 0∧n=0∧X=[]∧O'=O)∨∃(g cap:Nat) (cur:Array Value),v=.slice (some ⟨g,0,none⟩) n cap∧base≤g∧n≤cap∧cap≤maxLen∧cur.size=cap*k∧cur.toList.take (n*k)=X∧X.length=n*k∧O'=(g,.cells cur e)::O
theorem Froz.mono {base k n:Nat}{O':Blks}{v:Value}{e:TypeId}{X:List Value}(h:Froz base O' O v e k n X):∀x∈O,x∈O':=by
 rcases h with⟨_,_,_,rfl⟩ | ⟨g,cap,cur,_,_,_,_,_,_,_,rfl⟩
 ·exact fun _ h=>h
 ·exact fun _ h=>List.mem_cons_of_mem _ h
end
section
variable {P:Program} {ops:Array Oper} {oi:Oper} {a:Act} {w0 w w':World} {Q:Exit→Act→World→Prop} {n:Nat} {l:Slots} {L:Blks} {S:Nat→Prop} {R:List Row} {T:List Nat} {Z:World→Prop}
def wpLate (P:Program)(ops:Array Oper)(Q:Exit→Act→World→Prop)(Z:World→Prop)(T:List Nat):Nat→Array Bool→Act→World→Prop
 | 0,listed,a,w=>Region.ready .any ops listed=[]∧Q .normal a w
 | fuel+1,listed,a,w=>(Region.ready .any ops listed=[]→Q .normal a w)∧
  ∀i∈Region.ready .any ops listed,wpOp P ops Q i (fun a' w'=>(i∉T→Z w')∧wpLate P ops Q Z T fuel (listed.setIfInBounds i true) a' w') a w
theorem wpAny_late:∀(fuel:Nat) (listed:Array Bool) (a:Act) (w:World),wpLate P ops Q Z T fuel listed a w→wpAny P .any ops Q fuel listed a w
 | 0,_,_,_,h=>h
 | fuel+1,_,_,_,h=>⟨h.1,fun i hi=>wpOp_mono (fun a' w' h'=>wpAny_late fuel _ a' w' h'.2) (h.2 i hi)⟩
def waitsB (ops:Array Oper)(i:Nat):List Nat→Bool
 | []=>true
 | j::r=>(match ops[j]? with | some o=>o.after.any fun e=>Region.binds .any e&&Nat.beq e.on i | none=>true)&&waitsB ops i r
theorem waits_of {i:Nat}:∀{T:List Nat},waitsB ops i T=true→∀j∈T,∀o,ops[j]? = some o→∃e∈o.after,Region.binds .any e=true∧e.on=i
 | [],_,_,hj,_,_=>(nomatch hj)
 | k::r,h,j,hj,o,ho=>by
  rw [waitsB,Bool.and_eq_true]at h
  rcases List.mem_cons.1 hj with rfl | hj
  ·have h1:=h.1
   rw [ho]at h1
   obtain⟨e,he,hb⟩:=Array.any_eq_true'.1 h1
   rw [Bool.and_eq_true]at hb
   exact⟨e,he,hb.1,Nat.eq_of_beq_eq_true hb.2⟩
  ·exact waits_of h.2 j hj o ho
theorem wpLate_first {i:Nat}{v:Value}(hi:ops[i]? = some oi)(hsel:∀(j:Nat) (o:Oper) cs b,ops[j]? = some o→o.op≠.select cs b)(hT:waitsB ops i T=true)
  (hQ:∀c a w,Q (.panic c) (a.put oi.dst v) w→Q (.panic c) a w):∀(fuel:Nat) (listed:Array Bool) (a:Act) (w:World),
   (∀j oj,ops[j]? = some oj→j≠i→listed.getD j true=false→(∀e∈oj.after,Region.binds .any e=true→e.on≠i)→oi.apart ops oj=true)→
   i∈Region.ready .any ops listed→YieldsIf P ops Z oi v a→Z w→wpLate P ops Q Z T fuel (listed.setIfInBounds i true) (a.put oi.dst v) w→wpLate P ops Q Z T (fuel+1) listed a w:=by
 intro fuel
 induction fuel with
 | zero=>
  intro listed a w _ hr hy hZ H
  refine⟨fun h=>(by rw [h]at hr;cases hr),fun j hj=>?_⟩
  by_cases e:j=i
  ·subst e
   exact hy.wpOp hi hZ ⟨fun _=>hZ,H⟩
  ·have q:=ready_mono hj e
   rw [H.1]at q
   cases q
 | succ fuel ih=>
  intro listed a w hfree hr hy hZ H
  refine⟨fun h=>(by rw [h]at hr;cases hr),fun j hj=>?_⟩
  by_cases e:j=i
  ·subst e
   exact hy.wpOp hi hZ ⟨fun _=>hZ,H⟩
  ·obtain⟨hu,oj,hoj,hall⟩:=mem_ready.1 hj
   have hno:∀x∈oj.after,Region.binds .any x=true→x.on≠i:=fun x hx hb q=>by
    have h1:=hall x hx hb
    have h0:=(mem_ready.1 hr).1
    rw [q]at h1
    rcases Nat.lt_or_ge i listed.size with h' | h'
    ·simp [h']at h0 h1
     rw [h0]at h1
     cases h1
    ·simp [Array.getElem?_eq_none h']at h1
   have hjT:j∉T:=fun q=>by
    obtain⟨x,hx,hb,q'⟩:=waits_of hT j q oj hoj
    exact hno x hx hb q'
   have h2:=wpOp_putIf hoj (hfree j oj hoj e hu hno) (fun cs b=>hsel i oi cs b hi) (fun cs b=>hsel j oj cs b hoj) hQ hy (H.2 j (ready_mono hj e))
   refine wpOp_mono (fun a' w' h3=>⟨fun _=>h3.2.1 hjT,ih (listed.setIfInBounds j true) a' w' (fun k ok hk hki hun hn=>hfree k ok hk hki ?_ hn) (ready_mono hr (Ne.symm e)) h3.1 (h3.2.1 hjT) ?_⟩) h2
   ·by_cases q:j=k
    ·subst q;exact hu
    ·rw [getD_set_ne true q]at hun;exact hun
   ·rw [Array.setIfInBounds_comm _ _ e]
    exact h3.2.2
theorem late_stand {id N:Nat}(K:Blks)(hm:P.follows .mixedOrders=true)(hN:ops.size=N)(M:MemS S w0 w L R)(H:∀w',MemS S w0 w' L R→wpLate P ops Q (fun w=>Has w K) [] N (Array.replicate N false) a w'):(Code.region id ops true).wp P Q a w:=by
 refine wp_region_any hm (wpAny_late (Z:=fun w=>Has w K) (T:=[]) _ _ _ _ ?_)
 rw [hN]
 exact H _ (M.keep (w':={ w with drawn:=w.drawn+1 }) ⟨rfl,rfl,rfl,Nat.le_refl _,fun _ _=>rfl⟩)
theorem late_standT {id N:Nat}(K:Blks)(T:List Nat)(hm:P.follows .mixedOrders=true)(hN:ops.size=N)(M:MemS S w0 w L R)(H:∀w',MemS S w0 w' L R→wpLate P ops Q (fun w=>Has w K) T N (Array.replicate N false) a w'):(Code.region id ops true).wp P Q a w:=by
 refine wp_region_any hm (wpAny_late (Z:=fun w=>Has w K) (T:=T) _ _ _ _ ?_)
 rw [hN]
 exact H _ (M.keep (w':={ w with drawn:=w.drawn+1 }) ⟨rfl,rfl,rfl,Nat.le_refl _,fun _ _=>rfl⟩)
theorem lT (F:Fr n a l){i:Nat}{v:Value}{d fuel:Nat}{listed:Array Bool}(H:Has w L)(hi:ops[i]? = some oi)(hs:Region.noSelect ops=true)(hT:waitsB ops i T=true)(hf:Region.free .any ops listed i=true)(hr:(Region.ready .any ops listed).contains i=true)
  (hQ:∀c a (d:Nat) v w,Q (.panic c) (a.put (some d) v) w→Q (.panic c) a w) (hd:oi.dst=some d) (hn:d<n) (hg:wantOf ops.toList l oi=some true) (hrun:RunV P l L oi v)
  (K:∀a',Fr n a' (upd d v l)→wpLate P ops Q (fun w=>Has w L) T fuel (listed.setIfInBounds i true) a' w):wpLate P ops Q (fun w=>Has w L) T (fuel+1) listed a w:=by
 refine wpLate_first hi (Region.noSelect_spec hs) hT (fun c a w h=>by rw [hd]at h;exact hQ c a d v w h) fuel listed a w (Region.free_spec hi hf) (by simpa using hr) (.inl ⟨wanted_iff hg F.lk,fun w hw=>hrun a.eval w F.agr hw⟩) H ?_
 rw [hd]
 exact K _ (F.put _ hn)
theorem lO {i fuel:Nat}{listed:Array Bool}(hr:Region.ready .any ops listed=[i])(hi:ops[i]? = some oi)(h:wpList P ops (onN (fun a' w'=>(i∉T→Z w')∧wpLate P ops Q Z T fuel (listed.setIfInBounds i true) a' w') Q) [oi] a w):wpLate P ops Q Z T (fuel+1) listed a w:=
 ⟨fun h0=>(by rw [hr]at h0;cases h0),fun k hk=>by
  rw [hr,List.mem_singleton]at hk
  subst hk
  exact op_row hi h⟩
theorem late_two {i j fuel:Nat}{oj:Oper}{listed:Array Bool}(hr:Region.ready .any ops listed=[i,j])(hi:ops[i]? = some oi)(hj:ops[j]? = some oj)(h:wpList P ops (onN (fun a' w'=>(i∉T→Z w')∧wpLate P ops Q Z T fuel (listed.setIfInBounds i true) a' w') Q) [oi] a w)
  (h2:wpList P ops (onN (fun a' w'=>(j∉T→Z w')∧wpLate P ops Q Z T fuel (listed.setIfInBounds j true) a' w') Q) [oj] a w):wpLate P ops Q Z T (fuel+1) listed a w:=
 ⟨fun h0=>(by rw [hr]at h0;cases h0),fun k hk=>by
  rw [hr]at hk
  simp only [List.mem_cons,List.not_mem_nil,or_false]at hk
  rcases hk with rfl | rfl
  ·exact op_row hi h
  ·exact op_row hj h2⟩
theorem late_none {listed:Array Bool}{fuel:Nat}(hr:Region.ready .any ops listed=[])(h:Q .normal a w):wpLate P ops Q Z T fuel listed a w:=by
 cases fuel with
 | zero=>exact⟨hr,h⟩
 | succ k=>exact⟨fun _=>h,fun i hi=>(by rw [hr]at hi;cases hi)⟩
theorem loadRi {o:Oper}{x:Operand}{t:TypeId}{g k m:Nat}{cs:Array Value}{e:TypeId}{fr:Nat×Nat}{d:TypeDesc}(ho:o.op=.load t x)(hx:evO l x=some (.pointer (some ⟨g,0,none⟩)))(ht:P.underlying t=some d)(hd:d.isRow=true)(hi:(P.info? t).map (·.size)=some m)(hL:L[k]? = some (g,.cells cs e fr))(hm:cs.size=m):RunV P l L o (.agg cs):=fun ρ w A H=>by
 have e1:ρ x=.pointer (some ⟨g,0,none⟩):=A x _ hx
 have:=run_loadAt_mid (P:=P) w g 0 t cs.toList d (fun j v hv=>by rw [cell_of (H k _ hL),Nat.zero_add];simpa using hv) ht hd (by rw [hi,←hm];simp)
 simp only [execOp,ho,e1,Sem.run_bind,this,Result.andThen_ok,Sem.run_pure]
end
section
def placesOf (P:Program)(t:TypeId):Option (List (Nat×Nat)):=match P.underlying t with | some (.struct fs)=>fs.toList.mapM fun f=>(P.info? f.type).map fun i=>(f.offset,i.size) | _=>none
def zeroSize (P:Program)(t:TypeId):Option Nat:=match P.info? t with | some it=>it.zero.map (·.cells.size) | none=>none
def FitsP (pl:Nat→Option (Nat×Nat)):Nat→List (Nat×Value)→List Nat→Nat→Prop
 | off,[],[],tot=>off=tot
 | off,p::ps,n::ns,tot=>pl p.1=some (off,n)∧p.2.cells.size=n∧FitsP pl (off+n) ps ns tot
 | _,_,_,_=>False
def catA:Array Value→List (Nat×Value)→Array Value
 | a,[]=>a
 | a,p::r=>catA (a++p.2.cells) r
def catP:List (Nat×Value)→Array Value
 | []=>#[]
 | p::r=>catA p.2.cells r
theorem fold_set (vs:List (Value×Nat))(off:Nat):∀(cs:Array Value),(vs.foldl (fun cs (x:Value×Nat)=>cs.setIfInBounds (off+x.2) x.1) cs).size=cs.size:=by
 induction vs with
 | nil=>exact fun _=>rfl
 | cons x r ih=>exact fun cs=>by rw [List.foldl_cons,ih,Array.size_setIfInBounds]
theorem fold_at (off:Nat):∀(vs:List Value) (k:Nat) (cs:Array Value),off+k+vs.length≤cs.size→∀j,((vs.zipIdx k).foldl (fun cs (x:Value×Nat)=>cs.setIfInBounds (off+x.2) x.1) cs)[j]? = if off+k≤j∧j<off+k+vs.length then vs[j-(off+k)]? else cs[j]?
 | [],k,cs,_,j=>by
  rw [if_neg (by simp only [List.length_nil];omega)]
  rfl
 | v::r,k,cs,h,j=>by
  simp only [List.length_cons]at h
  rw [List.zipIdx_cons,List.foldl_cons,fold_at off r (k+1) _ (by rw [Array.size_setIfInBounds];omega) j]
  simp only [List.length_cons]
  by_cases e:j=off+k
  ·subst e
   rw [if_neg (by omega),if_pos (by omega),Nat.sub_self,Array.getElem?_setIfInBounds,if_pos rfl,if_pos (by omega)]
   rfl
  ·rw [Array.getElem?_setIfInBounds_ne (fun q=>e q.symm)]
   by_cases h1:off+k≤j∧j<off+k+(r.length+1)
   ·rw [if_pos h1,if_pos (by omega),show j-(off+k)=j-(off+(k+1))+1 by omega,List.getElem?_cons_succ]
   ·rw [if_neg h1,if_neg (by omega)]
theorem fill_fits {pl:Nat→Option (Nat×Nat)}:∀(ps:List (Nat×Value)) (ns:List Nat) (tot:Nat) (pre cs:Array Value),FitsP pl pre.size ps ns tot→cs.size=tot→(∀j,j<pre.size→cs[j]? = pre[j]?)→pre.size≤tot→Instr.fill pl cs ps=some (catA pre ps)
 | [],ns,tot,pre,cs,h,hs,hp,_=>by
  cases ns with
  | cons _ _=>exact h.elim
  | nil=>
   have h:pre.size=tot:=h
   refine congrArg some (Array.ext_getElem? fun j=>?_)
   rcases Nat.lt_or_ge j pre.size with q | q
   ·exact hp j q
   ·show cs[j]? = pre[j]?
    rw [Array.getElem?_eq_none (by omega),Array.getElem?_eq_none q]
 | p::r,ns,tot,pre,cs,h,hs,hp,hle=>by
  cases ns with
  | nil=>exact h.elim
  | cons n ns=>
   obtain⟨h1,h2,h3⟩:=h
   have tot_le:∀(ps:List (Nat×Value)) (ns:List Nat) (off:Nat),FitsP pl off ps ns tot→off≤tot:=fun ps=>by
    induction ps with
    | nil=>intro ns off q;cases ns with
     | nil=>exact Nat.le_of_eq q
     | cons _ _=>exact q.elim
    | cons x r ih=>intro ns off q;cases ns with
     | nil=>exact q.elim
     | cons m ms=>exact Nat.le_trans (Nat.le_add_right _ _) (ih ms _ q.2.2)
   have ht:=tot_le r ns _ h3
   unfold Instr.fill
   simp only [h1]
   have hl:p.2.cells.toList.length=n:=by rw [Array.length_toList];exact h2
   have ef:p.2.cells.zipIdx.foldl (fun cs (x:Value×Nat)=>cs.setIfInBounds (pre.size+x.2) x.1) cs=(p.2.cells.toList.zipIdx 0).foldl (fun cs (x:Value×Nat)=>cs.setIfInBounds (pre.size+x.2) x.1) cs:=by
    rw [←Array.foldl_toList,Array.toList_zipIdx]
   have hno:¬((decide (p.2.cells.size≠n) || decide (pre.size+p.2.cells.size>cs.size))=true):=by
    rw [h2,hs]
    simp
    omega
   rw [if_neg hno]
   refine(congrArg (fun z=>Instr.fill pl z r) ef).trans ?_
   refine fill_fits r ns tot (pre++p.2.cells) _ (by rw [Array.size_append,h2];exact h3) ?_ (fun j hj=>?_) (by rw [Array.size_append,h2];exact ht)
   ·rw [fold_set,hs]
   ·rw [Array.size_append,h2]at hj
    rw [fold_at pre.size p.2.cells.toList 0 cs (by rw [hl];omega) j,hl,Nat.add_zero]
    rcases Nat.lt_or_ge j pre.size with q | q
    ·rw [if_neg (by omega),hp j q,Array.getElem?_append_left q]
    ·rw [if_pos ⟨q,by omega⟩,Array.getElem?_append_right q,Array.getElem?_toList]
theorem built_fits {P:Program}{t:TypeId}{pl:List (Nat×Nat)}{tot n:Nat}{p:Nat×Value}{r:List (Nat×Value)}{ns:List Nat}{c:Array Value}(hp:placesOf P t=some pl)(hz:zeroSize P t=some tot)(h:FitsP (pl.toArray[·]?) 0 (p::r) (n::ns) tot)(hc:catP (p::r)=c):P.built t (p::r)=some c:=by
 unfold placesOf at hp
 unfold zeroSize at hz
 unfold Program.built
 split at hp
 ·rename_i fs hu
  split at hz
  ·rename_i it hi
   obtain⟨z,hz1,hz2⟩:=Option.map_eq_some_iff.1 hz
   simp only [hi,hu,hz1,hp]
   have:=fill_fits (pl:=(pl.toArray[·]?)) (p::r) (n::ns) tot #[] z.cells h hz2 (fun j hj=>by simp at hj) (Nat.zero_le _)
   rw [this,←hc]
   simp [catA,catP]
  ·cases hz
 ·cases hp
theorem evParts_rho {ρ:Operand→Value}{l:Slots}(A:Agr ρ l):∀(xs:List (Nat×Operand)) (us:List (Nat×Value)),evParts l xs=some us→xs.map (fun(i,x)=>(i,ρ x))=us
 | [],us,h=>by
  obtain rfl:=Option.some.inj h
  rfl
 | x::r,us,h=>by
  unfold evParts at h
  split at h
  ·rename_i v vs h1 h2
   obtain rfl:=Option.some.inj h
   simp [A x.2 v h1,evParts_rho A r vs h2]
  ·cases h
theorem build_ok {P:Program}{l:Slots}{L:Blks}{o:Oper}{t:TypeId}{ps:Array (Nat×Operand)}{xs:List (Nat×Value)}{c:Array Value}(ho:o.op=.build t ps)(hx:evParts l ps.toList=some xs)(hb:P.built t xs=some c):RunV P l L o (.agg c):=fun ρ w A _=>by
 have hp:=evParts_rho A _ _ hx
 have hq:=run_build' (P:=P) (w:=w) (t:=t) (ps:=xs.toArray) (z:=.agg c) (cs:=[]) (by simp [aBuild,hb])
 have hm:(ps.map fun(i,x)=>(i,ρ x))=xs.toArray:=by
  apply Array.toList_inj.1
  rw [Array.toList_map]
  exact hp
 simp [execOp,ho,hm,hq]
end
end Go.Proofs.YtdokjecjiifciaaGreatDoor
