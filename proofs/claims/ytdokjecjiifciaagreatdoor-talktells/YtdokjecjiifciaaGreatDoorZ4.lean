import Derived.Test.YtdokjecjiifciaaGreatDoorRows
import Derived.Test.YtdokjecjiifciaaGreatDoorZ3
import Derived.Laws.Externs
import Derived.Laws.Small
import Derived.Lib.Mul64
import Derived.Laws.BitsAllLaws
namespace Go.Proofs.YtdokjecjiifciaaGreatDoor
open Go.RowKit
set_option maxRecDepth 100000
theorem en_rotl:Enters Tryz.prog 202:=fun args w=>by simp [go_sem]
theorem en_turns:Enters Tryz.prog 187:=fun args w=>by simp [go_sem]
theorem en_shifts:Enters Tryz.prog 201:=fun args w=>by simp [go_sem]
theorem en_choice:Enters Tryz.prog 188:=fun args w=>by simp [go_sem]
theorem en_majority:Enters Tryz.prog 189:=fun args w=>by simp [go_sem]
theorem en_word:Enters Tryz.prog 200:=fun args w=>by simp [go_sem]
theorem en_spread:Enters Tryz.prog 186:=fun args w=>by simp [go_sem]
theorem en_after:Enters Tryz.prog 160:=fun args w=>by simp [go_sem]
theorem en_first:Enters Tryz.prog 158:=fun args w=>by simp [go_sem]
theorem en_sfill:Enters Tryz.prog 159:=fun args w=>by simp [go_sem]
theorem en_closed:Enters Tryz.prog 161:=fun args w=>by simp [go_sem]
theorem en_digest:Enters Tryz.prog 162:=fun args w=>by simp [go_sem]
theorem en_ssum:Enters Tryz.prog 131:=fun args w=>by simp [go_sem]
theorem rotl_any (x n:Nat)(hx:x<4294967296)(h0:0<n)(hn:n<32)(w0:World) :
  Calls Tryz.prog 202 #[.int .u32 (x:Nat),.int .i64 (-((n:Nat):Int))] w0 fun e w'=>e=.returned (.int .u32 (rr x n:Nat))∧Below w0.heap.size w0 w':=by
 refine eF Tryz.func202 rfl Tryz.ntmps202 (by simp) fun ac (FF:Fr 17 ac [(0,.int .u32 (x:Nat)),(1,.int .i64 (-((n:Nat):Int):Int))])=>?_
 have MM:=MemS.start w0
 refine wp_seq (rg_c FF MM [] 5 [] [] (fun _ _ FF1 MM1=>tN ?_))
 refine wp_seq (rg_c FF1 MM1 [(1,f_ (iW (18446744073709551616-n))),(0,t_ (iW (32-n)))] 6 [] [1] (⟨(negconv_ok (src:=3) (dst:=153) (x:=(.tmp 6)) (n:=n) (by kernel_rfl) rfl Tryz.underlying3 Tryz.underlying153 (by omega) (by omega)),by omega,by decide,(vI ((and_low 5 _).trans (by omega))),fun _ _ FF2 MM2=>tN ?_⟩))
 refine wp_seq (rg_c FF2 MM2 [(5,u_ 1 (iW n)),(1,t_ (.int .u32 (rr x n:Nat)))] 0 [4] [] (⟨by omega,by omega,(vI (by omega)),(by show _≤32;have:=hx;omega),(mod_lt32 _),(div_lt32 hx _),(vI (Nat.or_comm _ _)),fun _ _ FF3 MM3=>tN ?_⟩))
 refine wp_ret ?_
 repeat first | refine tR ?_ | refine iR ?_
 exact(ret_fr FF3 0 Tryz.results202 rfl ⟨rfl,MM3.below⟩)
theorem turns_any (x i j k:Nat)(hx:x<4294967296)(hi:0<i∧i<32)(hj:0<j∧j<32)(hk:0<k∧k<32)(w0:World) :
  Calls Tryz.prog 187 #[.int .u32 (x:Nat),iN i,iN j,iN k] w0 fun e w'=>e=.returned (.int .u32 (sg x i j k:Nat))∧Below w0.heap.size w0 w':=by
 refine eF Tryz.func187 rfl Tryz.ntmps187 (by simp) fun ac (FF:Fr 23 ac [(0,.int .u32 (x:Nat)),(1,iN i),(2,iN j),(3,iN k)])=>?_
 have MM:=MemS.start w0
 refine wp_seq (rg_c FF MM [] 9 [] [] (fun _ _ FF1 MM1=>tN ?_))
 refine wp_seq (rg_c FF1 MM1 [(3,t_ (.int .u32 (rr x i:Nat))),(3,t_ (.int .u32 (rr x j:Nat))),(4,t_ (.int .u32 (rr x k:Nat))),(0,t_ (.int .u32 (sg x i j k:Nat)))] 0 [8] [] (⟨(by have:=hi;omega),(cP en_rotl (rotl_any x i hx (by omega) (by omega)) _),(by have:=hj;omega),(cP en_rotl (rotl_any x j hx (by omega) (by omega)) _),(by have:=rr_lt hx i;omega),(by have:=rr_lt hx j;omega),(by have:=hk;omega),(cP en_rotl (rotl_any x k hx (by omega) (by omega)) _),(xor_lt32 (rr_lt hx _) (rr_lt hx _)),(by have:=rr_lt hx k;omega),rfl,fun _ _ FF2 MM2=>tN ?_⟩))
 refine wp_ret ?_
 repeat first | refine tR ?_ | refine iR ?_
 exact(ret_fr FF2 0 Tryz.results187 rfl ⟨rfl,MM2.below⟩)
theorem shifts_any (x i j k:Nat)(hx:x<4294967296)(hi:0<i∧i<32)(hj:0<j∧j<32)(hk:0<k∧k<32)(w0:World) :
  Calls Tryz.prog 201 #[.int .u32 (x:Nat),iN i,iN j,iN k] w0 fun e w'=>e=.returned (.int .u32 (ssh x i j k:Nat))∧Below w0.heap.size w0 w':=by
 refine eF Tryz.func201 rfl Tryz.ntmps201 (by simp) fun ac (FF:Fr 22 ac [(0,.int .u32 (x:Nat)),(1,iN i),(2,iN j),(3,iN k)])=>?_
 have MM:=MemS.start w0
 refine wp_seq (rg_c FF MM [] 9 [] [] (fun _ _ FF1 MM1=>tN ?_))
 refine wp_seq (rg_dc 14 FF1 MM1 [(3,t_ (.int .u32 (rr x i:Nat))),(3,t_ (.int .u32 (rr x j:Nat))),(4,t_ (.int .u32 (ssh x i j k:Nat)))] [] 0 [8] [] (⟨(by have:=hi;omega),(cP en_rotl (rotl_any x i hx (by omega) (by omega)) _),(by have:=hj;omega),(cP en_rotl (rotl_any x j hx (by omega) (by omega)) _),(by have:=rr_lt hx i;omega),(by have:=rr_lt hx j;omega),(by show _≤32;have:=hx;have:=hk;omega),(xor_lt32 (rr_lt hx _) (rr_lt hx _)),(div_lt32 hx _),rfl,fun _ _ FF2 MM2=>tN ?_⟩))
 refine wp_ret ?_
 repeat first | refine tR ?_ | refine iR ?_
 exact(ret_fr FF2 0 Tryz.results201 rfl ⟨rfl,MM2.below⟩)
theorem choice_any (x y z:Nat)(hx:x<4294967296)(hy:y<4294967296)(hz:z<4294967296)(w0:World) :
  Calls Tryz.prog 188 #[.int .u32 (x:Nat),.int .u32 (y:Nat),.int .u32 (z:Nat)] w0 fun e w'=>e=.returned (.int .u32 (cho x y z:Nat))∧Below w0.heap.size w0 w':=by
 refine eF Tryz.func188 rfl Tryz.ntmps188 (by simp) fun ac (FF:Fr 15 ac [(0,.int .u32 (x:Nat)),(1,.int .u32 (y:Nat)),(2,.int .u32 (z:Nat))])=>?_
 have MM:=MemS.start w0
 refine wp_seq (rg_c FF MM [] 7 [] [] (fun _ _ FF1 MM1=>tN ?_))
 refine wp_seq (rg_c FF1 MM1 [(4,f_ (.int .u32 (4294967295 ^^^ x:Nat))),(2,t_ (.int .u32 (cho x y z:Nat)))] 0 [6] [] (⟨(by have:=hx;omega),(by have:=hy;omega),(compl_ok (t:=126) (x:=(.tmp 10)) (by kernel_rfl) rfl hx),(xor_lt32 (by decide) hx),(by have:=hz;omega),(and_lt32 _ hx),(and_lt32 _ (xor_lt32 (by decide) hx)),rfl,fun _ _ FF2 MM2=>tN ?_⟩))
 refine wp_ret ?_
 repeat first | refine tR ?_ | refine iR ?_
 exact(ret_fr FF2 0 Tryz.results188 rfl ⟨rfl,MM2.below⟩)
theorem majority_any (x y z:Nat)(hx:x<4294967296)(hy:y<4294967296)(hz:z<4294967296)(w0:World) :
  Calls Tryz.prog 189 #[.int .u32 (x:Nat),.int .u32 (y:Nat),.int .u32 (z:Nat)] w0 fun e w'=>e=.returned (.int .u32 (maj x y z:Nat))∧Below w0.heap.size w0 w':=by
 refine eF Tryz.func189 rfl Tryz.ntmps189 (by simp) fun ac (FF:Fr 18 ac [(0,.int .u32 (x:Nat)),(1,.int .u32 (y:Nat)),(2,.int .u32 (z:Nat))])=>?_
 have MM:=MemS.start w0
 refine wp_seq (rg_c FF MM [] 7 [] [] (fun _ _ FF1 MM1=>tN ?_))
 refine wp_seq (rg_c FF1 MM1 [(10,t_ (.int .u32 (maj x y z:Nat)))] 0 [6] [] (⟨(by have:=hx;omega),(by have:=hy;omega),(by have:=hx;omega),(by have:=hz;omega),(and_lt32 _ hx),(and_lt32 _ hx),(by have:=hy;omega),(by have:=hz;omega),(or_lt32 (and_lt32 _ hx) (and_lt32 _ hx)),(and_lt32 _ hy),rfl,fun _ _ FF2 MM2=>tN ?_⟩))
 refine wp_ret ?_
 repeat first | refine tR ?_ | refine iR ?_
 exact(ret_fr FF2 0 Tryz.results189 rfl ⟨rfl,MM2.below⟩)
theorem word_any (X:List Nat)(hX:Bytes 4 X)(w0:World) :
  Calls Tryz.prog 200 #[.agg (cn .u8 X)] w0 fun e w'=>e=.returned (.int .u32 (wd X 0:Nat))∧Below w0.heap.size w0 w':=by
 refine eF Tryz.func200 rfl Tryz.ntmps200 (by simp) fun ac (FF:Fr 21 ac [(0,.agg (cn .u8 X))])=>?_
 have MM:=MemS.start w0
 refine wp_seq (rg_c FF MM [(0,s_ 0 (.cells (cn .u8 X) 271))] 3 [] [0] (⟨(by kernel_rfl),fun b1=>fun _ _ FF1 MM1=>tN ?_⟩))
 refine wp_seq (rg_c FF1 MM1 [(0,w_ 1),(0,l_ 0 (iB (X.getD 0 0))),(0,w_ 1),(0,t_ (.int .u32 ((X.getD 0 0)*16777216%4294967296:Nat))),(0,w_ 1),(0,l_ 0 (iB (X.getD 1 0))),(0,w_ 1),(0,t_ (.int .u32 ((X.getD 1 0)*65536%4294967296:Nat))),(1,w_ 1),(0,l_ 0 (iB (X.getD 2 0))),(0,w_ 1),(0,t_ (.int .u32 ((X.getD 2 0)*256%4294967296:Nat))),(1,w_ 1),(0,l_ 0 (iB (X.getD 3 0))),(0,w_ 1),(0,t_ (.int .u32 (wd X 0:Nat)))] 0 [2] [] (⟨by decide,rfl,(cn_get _ _ _ (by rw [hX.len];decide)),(by have:=hX.lt 0;omega),rfl,by decide,rfl,(cn_get _ _ _ (by rw [hX.len];decide)),(by have:=hX.lt 1;omega),rfl,(mod_lt32 _),(mod_lt32 _),by decide,rfl,(cn_get _ _ _ (by rw [hX.len];decide)),(by have:=hX.lt 2;omega),rfl,(or_lt32 (mod_lt32 _) (mod_lt32 _)),(mod_lt32 _),by decide,rfl,(cn_get _ _ _ (by rw [hX.len];decide)),(by have:=hX.lt 3;omega),(or_lt32 (or_lt32 (mod_lt32 _) (mod_lt32 _)) (mod_lt32 _)),(by have:=hX.lt 3;omega),rfl,fun _ _ FF2 MM2=>tN ?_⟩))
 refine wp_ret ?_
 repeat first | refine tR ?_ | refine iR ?_
 exact(ret_fr FF2 0 Tryz.results200 rfl ⟨rfl,MM2.below⟩)
theorem spread_any (X:List Nat)(hX:Bytes 64 X)(w0:World) :
  Calls Tryz.prog 186 #[.agg (cn .u8 X)] w0 fun e w'=>e=.returned (.agg (cn .u32 (genL 64 (wAt X) 64)))∧Below w0.heap.size w0 w':=by
 refine eF Tryz.func186 rfl Tryz.ntmps186 (by simp) fun ac (FF:Fr 46 ac [(0,.agg (cn .u8 X))])=>?_
 have MM:=MemS.start w0
 refine wp_seq (rg_c FF MM [(0,s_ 0 (.cells (cn .u8 X) 245)),(0,s_ 0 (.cells (cn .u32 (List.replicate 64 0)) 267))] 3 [] [0] (⟨(by kernel_rfl),fun bx=>⟨(by kernel_rfl),fun b1=>fun _ _ FF1 MM1=>tN ?_⟩⟩))
 refine wp_seq (rg_c FF1 MM1 [(0,s_ 0 (.cells (cn .u32 (List.replicate 64 0)) 267))] 4 [] [] (⟨(by kernel_rfl),fun bw=>fun _ _ FF2 MM2=>tN ?_⟩))
 have MMr4:MemS _ _ _ [(bw,.cells (cn .u32 (genL 64 (wAt X) 0)) 267),_,_] _:=MM2.eqA 0 rfl (by rw [←genL_zero 64 (wAt X)] <;> rfl)
 refine wp_seq ?_
 refine wp_seq (rg_c FF2 MMr4 [] 7 [] [] (fun _ _ FF3 MM3=>tN ?_))
 refine wp_for (fun a' w'=>∃i:Nat,i≤16∧Fr 46 a' [(6,iN i),(3,pT bw),(2,pT b1),(1,pT bx)]∧MemS (fun k=>k<w0.heap.size) w0 w' [(bw,.cells (cn .u32 (genL 64 (wAt X) i)) 267),(b1,.cells (cn .u32 (List.replicate 64 0)) 267),(bx,.cells (cn .u8 X) 245)] []) (fun a' _=>(16-cnt 6 a').toNat) ⟨0,by omega,FF3.pick [0,1,2,3],MM3⟩ ?_
 rintro ac4 wd4 ⟨i,hi,FF4,MM4⟩
 have hci:=cnt_of (FF4.get 0 rfl)
 refine rg_c FF4 MM4 [] 8 [] [] (fun _ _ FF5 MM5=>?_)
 by_cases hlti:i<16
 ·skip
  refine tN (.inl ⟨(FF5.ev 0 rfl).trans (dec_t hlti),?_⟩)
  refine wp_seq (rg_c FF5 MM5 [] 7 [] [] (fun _ _ FF6 MM6=>tN ?_))
  refine rg_c FF6 MM6 [(3,w_ 2),(1,l_ 2 (.agg (cn .u8 ((X.drop (4*i)).take 4)))),(0,t_ (.int .u32 (wd ((X.drop (4*i)).take 4) 0:Nat))),(0,w_ 1),(0,s_ 0 (.cells (cn .u32 (genL 64 (wAt X) (i+1))) 267))] 7 [] [] (⟨by omega,by omega,by decide,by omega,by omega,rfl,(part_cut hX.len (by omega)),((cZ _ _).trans (len_cut hX.len (by omega))),(cP en_word (word_any ((X.drop (4*i)).take 4) ⟨(len_cut hX.len (by omega)),(cut_lt2 hX.lt)⟩) _),by omega,rfl,(by rw [cZ,(genL_len _ _ _)];omega),(.inl rfl),((cn_set _ _ _ _).trans (congrArg _ (genL_step _ _ i (by omega) ((wd_cut X (4*i)).trans (wAt_lo X hlti).symm)))),fun _ _ FF7 MM7=>?_⟩)
  refine inb_n (tN ?_)
  refine rg_c FF7 MM7 [] 7 [] [] (⟨by omega,fun _ _ FF8 MM8=>?_⟩)
  have hdi:=cnt_of (FF8.get 0 rfl)
  refine tN ⟨⟨i+1,by omega,FF8.pick [0,2,3,4],MM8⟩,?_⟩
  rw [hci,hdi];omega
 ·skip
  refine tN (.inr ⟨(FF5.ev 0 rfl).trans (dec_f hlti),?_⟩)
  obtain rfl:i=16:=by omega
  refine tN ?_
  refine wp_seq ?_
  refine wp_seq (rg_c FF5 MM5 [] 7 [] [] (fun _ _ FF9 MM9=>tN ?_))
  refine wp_for2 (fun a' w'=>∃i:Nat,(16≤i∧i≤64)∧Fr 46 a' [(5,iN i),(6,iN 16),(3,pT bw),(2,pT b1),(1,pT bx)]∧MemS (fun k=>k<w0.heap.size) w0 w' [(bw,.cells (cn .u32 (genL 64 (wAt X) i)) 267),(b1,.cells (cn .u32 (List.replicate 64 0)) 267),(bx,.cells (cn .u8 X) 245)] []) (fun a' _=>(64-cnt 5 a').toNat) ⟨16,by omega,FF9.pick [0,1,2,3,4],MM9⟩ ?_
  rintro ac10 wd10 ⟨i,hi,FF10,MM10⟩
  have hci:=cnt_of (FF10.get 0 rfl)
  refine rg_c FF10 MM10 [] 7 [19] [] (fun _ _ FF11 MM11=>?_)
  by_cases hlti:i<64
  ·skip
   refine tN (.inl ⟨(FF11.ev 0 rfl).trans (dec_t hlti),?_⟩)
   refine rg_dc 23 FF11 MM11 [(3,w_ 1),(0,l_ 0 (.int .u32 (wAt X (i-16):Nat))),(2,w_ 1),(0,l_ 0 (.int .u32 (wAt X (i-15):Nat))),(0,t_ (.int .u32 (ssh (wAt X (i-15)) 7 18 3:Nat))),(3,w_ 1),(0,l_ 0 (.int .u32 (wAt X (i-7):Nat))),(3,w_ 1),(0,l_ 0 (.int .u32 (wAt X (i-2):Nat))),(0,t_ (.int .u32 (ssh (wAt X (i-2)) 17 19 10:Nat))),(0,t_ (.int .u32 (wAt X i:Nat))),(0,w_ 1)] [(0,s_ 0 (.cells (cn .u32 (genL 64 (wAt X) (i+1))) 267))] 7 [] [] (⟨by omega,by omega,by omega,rfl,((cn_get _ _ _ (by rw [genL_len];omega)).trans (by rw [genL_get _ _ _ (by omega),if_pos (by omega)])),by omega,by omega,by omega,rfl,((cn_get _ _ _ (by rw [genL_len];omega)).trans (by rw [genL_get _ _ _ (by omega),if_pos (by omega)])),(cP en_shifts (shifts_any (wAt X (i-15)) 7 18 3 (wAt_lt hX.lt (i-15)) (by decide) (by decide) (by decide)) _),by omega,by omega,by omega,rfl,((cn_get _ _ _ (by rw [genL_len];omega)).trans (by rw [genL_get _ _ _ (by omega),if_pos (by omega)])),by omega,by omega,by omega,rfl,((cn_get _ _ _ (by rw [genL_len];omega)).trans (by rw [genL_get _ _ _ (by omega),if_pos (by omega)])),(cP en_shifts (shifts_any (wAt X (i-2)) 17 19 10 (wAt_lt hX.lt (i-2)) (by decide) (by decide) (by decide)) _),(vI (wAt_hi X (by omega)).symm),by omega,rfl,(by rw [cZ,(genL_len _ _ _)];omega),(.inl rfl),((cn_set _ _ _ _).trans (congrArg _ (genL_step _ _ i (by omega) rfl))),fun _ _ FF12 MM12=>?_⟩)
   refine inb_n (tN ?_)
   refine rg_c FF12 MM12 [] 7 [] [] (⟨by omega,fun _ _ FF13 MM13=>?_⟩)
   have hdi:=cnt_of (FF13.get 0 rfl)
   refine tN ⟨⟨i+1,by omega,FF13.pick [0,1,2,3,4],MM13⟩,?_⟩
   rw [hci,hdi];omega
  ·skip
   refine tN (.inr ⟨(FF11.ev 0 rfl).trans (dec_f hlti),?_⟩)
   obtain rfl:i=64:=by omega
   refine tN ?_
   refine wp_seq (rg_c FF11 MM11 [(0,b_ 0),(0,b_ 1)] 7 [] [] (⟨rfl,((cZ _ _).trans (genL_len _ _ _)),rfl,((cZ _ _).trans (List.length_replicate ..)),((cZ _ _).trans (genL_len _ _ _)),(cn_one _ _),rfl,fun _ _ FF14 MM14=>tN ?_⟩))
   refine wp_ret ?_
   repeat first | refine tR ?_ | refine iR ?_
   exact(retc FF14 MM14 (k:=64) (i:=1) (j:=3) Tryz.results186 rfl rfl Tryz.underlying267 rfl (by kernel_rfl) ((cZ _ _).trans (genL_len _ _ _)) ⟨rfl,MM14.below⟩)
theorem after_any (Tg:TypeId)(fg:Nat×Nat)(H X:List Nat)(hH:Wds 8 H)(hX:Bytes 64 X)(w0:World)(hg:w0.heap[0]? = some (.cells (cn .u32 kTab) Tg fg)) :
  Calls Tryz.prog 160 #[.agg (cn .u32 H),.agg (cn .u8 X)] w0 fun e w'=>e=.returned (.agg (cn .u32 (aftN H X)))∧Below w0.heap.size w0 w':=by
 have MM:=MemS.start1 hg
 refine eF Tryz.func160 rfl Tryz.ntmps160 (by simp) fun ac (FF:Fr 108 ac [(0,.agg (cn .u32 H)),(1,.agg (cn .u8 X))])=>?_
 refine wp_seq (rg_c FF MM [(0,s_ 0 (.cells (cn .u32 H) 257)),(0,s_ 0 (.cells (cn .u8 X) 245)),(0,s_ 0 (.cells (cn .u32 (List.replicate 8 0)) 257))] 5 [] [0,1] (⟨(by kernel_rfl),fun bh=>⟨(by kernel_rfl),fun bx=>⟨(by kernel_rfl),fun bo=>fun _ _ FF1 MM1=>tN ?_⟩⟩⟩))
 refine wp_seq (rg_c FF1 MM1 [(0,b_ 1),(0,t_ (.agg (cn .u32 (genL 64 (wAt X) 64)))),(0,s_ 0 (.cells (cn .u32 (List.replicate 64 0)) 267)),(0,b_ 0)] 6 [] [3] (⟨rfl,((cZ _ _).trans hX.len),(cP en_spread (spread_any X ⟨hX.len,hX.lt⟩) _),(by kernel_rfl),fun bw=>⟨rfl,((cZ _ _).trans (List.length_replicate ..)),((cZ _ _).trans (genL_len _ _ _)),(cn_one _ _),rfl,fun _ _ FF2 MM2=>tN ?_⟩⟩))
 refine wp_seq (rg_dc 24 FF2 MM2 [(0,w_ 1),(0,l_ 3 (.int .u32 (H.getD 0 0:Nat))),(0,w_ 1),(0,l_ 3 (.int .u32 (H.getD 1 0:Nat))),(0,w_ 1),(0,l_ 3 (.int .u32 (H.getD 2 0:Nat))),(0,w_ 1),(0,l_ 3 (.int .u32 (H.getD 3 0:Nat))),(0,w_ 1),(0,l_ 3 (.int .u32 (H.getD 4 0:Nat))),(0,w_ 1),(0,l_ 3 (.int .u32 (H.getD 5 0:Nat))),(0,w_ 1),(0,l_ 3 (.int .u32 (H.getD 6 0:Nat))),(0,w_ 1),(0,l_ 3 (.int .u32 (H.getD 7 0:Nat))),(0,t_ (.int .u32 ((stK H X 0).getD 0 0:Nat))),(0,t_ (.int .u32 ((stK H X 0).getD 1 0:Nat))),(0,t_ (.int .u32 ((stK H X 0).getD 2 0:Nat))),(0,t_ (.int .u32 ((stK H X 0).getD 3 0:Nat))),(0,t_ (.int .u32 ((stK H X 0).getD 4 0:Nat))),(0,t_ (.int .u32 ((stK H X 0).getD 5 0:Nat))),(0,t_ (.int .u32 ((stK H X 0).getD 6 0:Nat))),(0,t_ (.int .u32 ((stK H X 0).getD 7 0:Nat)))] [] 14 [] [] (⟨by decide,rfl,(cn_get _ _ _ (by rw [hH.len];decide)),by decide,rfl,(cn_get _ _ _ (by rw [hH.len];decide)),by decide,rfl,(cn_get _ _ _ (by rw [hH.len];decide)),by decide,rfl,(cn_get _ _ _ (by rw [hH.len];decide)),by decide,rfl,(cn_get _ _ _ (by rw [hH.len];decide)),by decide,rfl,(cn_get _ _ _ (by rw [hH.len];decide)),by decide,rfl,(cn_get _ _ _ (by rw [hH.len];decide)),by decide,rfl,(cn_get _ _ _ (by rw [hH.len];decide)),rfl,rfl,rfl,rfl,rfl,rfl,rfl,rfl,fun _ _ FF3 MM3=>tN ?_⟩))
 refine wp_seq ?_
 refine wp_seq (rg_c FF3 MM3 [] 36 [] [] (fun _ _ FF4 MM4=>tN ?_))
 refine wp_for (fun a' w'=>∃n:Nat,n≤64∧Fr 108 a' [(35,iN n),(13,.int .u32 ((stK H X n).getD 7 0:Nat)),(12,.int .u32 ((stK H X n).getD 6 0:Nat)),(11,.int .u32 ((stK H X n).getD 5 0:Nat)),(10,.int .u32 ((stK H X n).getD 4 0:Nat)),(9,.int .u32 ((stK H X n).getD 3 0:Nat)),(8,.int .u32 ((stK H X n).getD 2 0:Nat)),(7,.int .u32 ((stK H X n).getD 1 0:Nat)),(6,.int .u32 ((stK H X n).getD 0 0:Nat)),(5,pT bw),(4,pT bo),(2,pT bh)]∧MemS (fun k=>k<w0.heap.size∧k≠0) w0 w' [(bw,.cells (cn .u32 (genL 64 (wAt X) 64)) 267),(bo,.cells (cn .u32 (List.replicate 8 0)) 257),(bx,.cells (cn .u8 X) 245),(bh,.cells (cn .u32 H) 257),(0,.cells (cn .u32 kTab) Tg fg)] []) (fun a' _=>(64-cnt 35 a').toNat) ⟨0,by omega,FF4.pick [0,1,2,3,4,5,6,7,8,9,10,11],MM4⟩ ?_
 rintro ac5 wd5 ⟨n,hn,FF5,MM5⟩
 have hcn:=cnt_of (FF5.get 0 rfl)
 refine rg_c FF5 MM5 [] 37 [] [] (fun _ _ FF6 MM6=>?_)
 by_cases hltn:n<64
 ·skip
  refine tN (.inl ⟨(FF6.ev 0 rfl).trans (dec_t hltn),?_⟩)
  refine wp_seq (rg_c FF6 MM6 [] 36 [] [] (fun _ _ FF7 MM7=>tN ?_))
  refine wp_seq (rg_dc 18 FF7 MM7 [(2,t_ (.int .u32 (sg ((stK H X n).getD 4 0) 6 11 25:Nat))),(4,t_ (.int .u32 (cho ((stK H X n).getD 4 0) ((stK H X n).getD 5 0) ((stK H X n).getD 6 0):Nat))),(2,w_ 1),(0,l_ 4 (.int .u32 (kTab.getD n 0:Nat))),(2,w_ 1),(0,l_ 0 (.int .u32 (wAt X n:Nat))),(0,t_ (.int .u32 (tt (stK H X n) (kTab.getD n 0) (wAt X n):Nat)))] [] 36 [] [] (⟨(cP en_turns (turns_any ((stK H X n).getD 4 0) 6 11 25 ((stK_wds hH X n).lt 4) (by decide) (by decide) (by decide)) _),(cP en_choice (choice_any ((stK H X n).getD 4 0) ((stK H X n).getD 5 0) ((stK H X n).getD 6 0) ((stK_wds hH X n).lt 4) ((stK_wds hH X n).lt 5) ((stK_wds hH X n).lt 6)) _),by omega,rfl,(cn_get _ _ _ (by rw [kTab_wds.len];omega)),by omega,rfl,((cn_get _ _ _ (by rw [genL_len];omega)).trans (by rw [genL_get _ _ _ (by omega),if_pos (by omega)])),rfl,fun _ _ FF8 MM8=>tN ?_⟩))
  refine wp_seq (rg_c FF8 MM8 [(1,t_ (.int .u32 (sg ((stK H X n).getD 0 0) 2 13 22:Nat))),(3,t_ (.int .u32 (maj ((stK H X n).getD 0 0) ((stK H X n).getD 1 0) ((stK H X n).getD 2 0):Nat))),(0,t_ (.int .u32 (uu (stK H X n):Nat)))] 36 [] [] (⟨(cP en_turns (turns_any ((stK H X n).getD 0 0) 2 13 22 ((stK_wds hH X n).lt 0) (by decide) (by decide) (by decide)) _),(cP en_majority (majority_any ((stK H X n).getD 0 0) ((stK H X n).getD 1 0) ((stK H X n).getD 2 0) ((stK_wds hH X n).lt 0) ((stK_wds hH X n).lt 1) ((stK_wds hH X n).lt 2)) _),rfl,fun _ _ FF9 MM9=>tN ?_⟩))
  refine rg_c FF9 MM9 [(12,t_ (.int .u32 ((stK H X (n+1)).getD 0 0:Nat))),(0,t_ (.int .u32 ((stK H X (n+1)).getD 1 0:Nat))),(0,t_ (.int .u32 ((stK H X (n+1)).getD 2 0:Nat))),(0,t_ (.int .u32 ((stK H X (n+1)).getD 3 0:Nat))),(0,t_ (.int .u32 ((stK H X (n+1)).getD 4 0:Nat))),(0,t_ (.int .u32 ((stK H X (n+1)).getD 5 0:Nat))),(0,t_ (.int .u32 ((stK H X (n+1)).getD 6 0:Nat))),(0,t_ (.int .u32 ((stK H X (n+1)).getD 7 0:Nat)))] 36 [] [] (⟨(vI (stK_0 H X n)),(vI (stK_1 H X n)),(vI (stK_2 H X n)),(vI (stK_3 H X n)),(vI (stK_4 H X n)),(vI (stK_5 H X n)),(vI (stK_6 H X n)),(vI (stK_7 H X n)),fun _ _ FF10 MM10=>?_⟩)
  refine inb_n (tN ?_)
  refine rg_c FF10 MM10 [] 36 [] [] (⟨by omega,fun _ _ FF11 MM11=>?_⟩)
  have hdn:=cnt_of (FF11.get 0 rfl)
  refine tN ⟨⟨n+1,by omega,FF11.pick [0,1,2,3,4,5,6,7,8,12,13,14],MM11⟩,?_⟩
  rw [hcn,hdn];omega
 ·skip
  refine tN (.inr ⟨(FF6.ev 0 rfl).trans (dec_f hltn),?_⟩)
  obtain rfl:n=64:=by omega
  refine tN ?_
  refine wp_seq (rg_c FF6 MM6 [(0,w_ 1),(0,l_ 3 (.int .u32 (H.getD 0 0:Nat))),(2,w_ 1),(0,l_ 3 (.int .u32 (H.getD 1 0:Nat))),(2,w_ 1),(0,l_ 3 (.int .u32 (H.getD 2 0:Nat))),(2,w_ 1),(0,l_ 3 (.int .u32 (H.getD 3 0:Nat))),(2,w_ 1),(0,l_ 3 (.int .u32 (H.getD 4 0:Nat))),(2,w_ 1),(0,l_ 3 (.int .u32 (H.getD 5 0:Nat))),(2,w_ 1),(0,l_ 3 (.int .u32 (H.getD 6 0:Nat))),(2,w_ 1),(0,l_ 3 (.int .u32 (H.getD 7 0:Nat))),(2,t_ (.agg (cn .u32 (aftN H X)))),(0,b_ 1)] 36 [] [] (⟨by decide,rfl,(cn_get _ _ _ (by rw [hH.len];decide)),by decide,rfl,(cn_get _ _ _ (by rw [hH.len];decide)),by decide,rfl,(cn_get _ _ _ (by rw [hH.len];decide)),by decide,rfl,(cn_get _ _ _ (by rw [hH.len];decide)),by decide,rfl,(cn_get _ _ _ (by rw [hH.len];decide)),by decide,rfl,(cn_get _ _ _ (by rw [hH.len];decide)),by decide,rfl,(cn_get _ _ _ (by rw [hH.len];decide)),by decide,rfl,(cn_get _ _ _ (by rw [hH.len];decide)),(Eq.trans (show _=some (cn .u32 ([((H.getD 0 0)+((stK H X 64).getD 0 0))%4294967296,((H.getD 1 0)+((stK H X 64).getD 1 0))%4294967296,((H.getD 2 0)+((stK H X 64).getD 2 0))%4294967296,((H.getD 3 0)+((stK H X 64).getD 3 0))%4294967296,((H.getD 4 0)+((stK H X 64).getD 4 0))%4294967296,((H.getD 5 0)+((stK H X 64).getD 5 0))%4294967296,((H.getD 6 0)+((stK H X 64).getD 6 0))%4294967296,((H.getD 7 0)+((stK H X 64).getD 7 0))%4294967296]))by kernel_rfl) (congrArg some (Value.agg.inj rfl))),rfl,((cZ _ _).trans (List.length_replicate ..)),((cZ _ _).trans (aftN_wds H X).len),(cn_one _ _),rfl,fun _ _ FF12 MM12=>tN ?_⟩))
  refine wp_ret ?_
  repeat first | refine tR ?_ | refine iR ?_
  exact(retc FF12 MM12 (k:=8) (i:=1) (j:=10) Tryz.results160 rfl rfl Tryz.underlying257 rfl (by kernel_rfl) ((cZ _ _).trans (aftN_wds H X).len) ⟨rfl,MM12.below1 4 rfl hg⟩)
def sblk (R:List Nat):Array Value:=cn .u8 (sPad R)++(#[iN R.length]:Array Value)
theorem sblk_size {R:List Nat}(h:R.length≤64):(sblk R).size=65:=by simp [sblk,cZ,sPad_len h]
theorem szero:cn .u8 (List.replicate 64 0)++(#[iN 0]:Array Value)=sblk []:=rfl
theorem sfill_cells {R X:List Nat}(h:R.length≤64):setFrom (sblk R) R.length (bcells (X.take (64-R.length)))=cn .u8 (sPad (R++X.take (64-R.length)))++(#[iN R.length]:Array Value):=by
 have hz:(X.take (64-R.length)).length≤64-R.length:=by simp;omega
 rw [sblk,setFrom_cat (by rw [sPad_len h];omega)]
 congr 2
 generalize X.take (64-R.length)=Z at *
 unfold sPad
 rw [List.take_append_of_le_length (Nat.le_refl _),List.take_length,List.drop_append,List.drop_eq_nil_of_le (by omega),List.nil_append,List.drop_replicate]
 congr 2
 simp;omega
theorem send_cells {R:List Nat}(h:R.length<64){d:Array Value}:(cn .u8 (sPad R)++d).setIfInBounds R.length (iB 128)=cn .u8 (sEnd R)++d:=
 (cat_set_l (by rw [cZ,sPad_len (by omega)];exact h)).trans (congrArg (· ++ _) (cn_set _ _ _ _))
theorem slen_cells {L:List Nat}{d:Array Value}{f:Nat→Nat}{i:Nat}(hL:L.length=64)(hi:i<8):(cn .u8 (ovr L 56 f i)++d).setIfInBounds (56+i) (iB (f i))=cn .u8 (ovr L 56 f (i+1))++d:=
 (cat_set_l (by rw [cZ,ovr_len f hL (by omega)];omega)).trans (congrArg (· ++ _) ((cn_set _ _ _ _).trans (congrArg _ (ovr_step f (by omega) rfl))))
theorem sfill_len {R X:List Nat}(h:R.length≤64):(R++X.take (64-R.length)).length≤64:=by simp;omega
theorem sfill_lt {R X:List Nat}(h:∀i,R.getD i 0<256)(h':∀i,X.getD i 0<256)(i:Nat):(R++X.take (64-R.length)).getD i 0<256:=app_lt h (take_lt h') i
theorem srem_le (T:List Nat):(sRem T).length≤64:=by rw [sRem_len];omega
theorem srem_lt (T:List Nat):(sRem T).length<64:=by rw [sRem_len];omega
theorem first_any  (w0:World) :
  Calls Tryz.prog 158 #[] w0 fun e w'=>e=.returned (.agg (cn .u32 iv))∧Below w0.heap.size w0 w':=by
 refine eF Tryz.func158 rfl Tryz.ntmps158 (by simp) fun ac (FF:Fr 2 ac [])=>?_
 have MM:=MemS.start w0
 refine wp_seq (rg_c FF MM [(0,s_ 0 (.cells (cn .u32 (List.replicate 8 0)) 257))] 1 [] [] (⟨(by kernel_rfl),fun b1=>fun _ _ FF1 MM1=>tN ?_⟩))
 refine wp_seq (rg_c FF1 MM1 [(0,t_ (.agg (cn .u32 iv))),(0,b_ 0)] 1 [] [] (⟨(Eq.trans (show _=some (cn .u32 ([1779033703,3144134277,1013904242,2773480762,1359893119,2600822924,528734635,1541459225]))by kernel_rfl) (congrArg some (Value.agg.inj rfl))),rfl,((cZ _ _).trans (List.length_replicate ..)),((cZ _ _).trans iv_wds.len),(cn_one _ _),rfl,fun _ _ FF2 MM2=>tN ?_⟩))
 refine wp_ret ?_
 repeat first | refine tR ?_ | refine iR ?_
 exact(retc FF2 MM2 (k:=8) (i:=0) (j:=0) Tryz.results158 rfl rfl Tryz.underlying257 rfl (by kernel_rfl) ((cZ _ _).trans iv_wds.len) ⟨rfl,MM2.below⟩)
theorem sfill_any (R X:List Nat)(b j:Nat)(hRs:R.length<64)(hX:∀i,X.getD i 0<256)(L:Blks)(hj:L[j]? = some (b,.cells (sblk R) 260))(w0:World)(H:Has w0 L) :
  Calls Tryz.prog 159 #[pT b,sB X] w0 fun e w'=>e=.returned (sB (X.drop (64-R.length)))∧Post w0 w' L ⟨fun _=>sB (X.drop (64-R.length)),none,[(j,.cells (sblk (R++X.take (64-R.length))) 260)]⟩ 0:=by
 have MM:=MemS.start1 (H j _ hj)
 refine eF Tryz.func159 rfl Tryz.ntmps159 (by simp) fun ac (FF:Fr 27 ac [(0,pT b),(1,sB X)])=>?_
 have hR:R.length≤64:=Nat.le_of_lt hRs
 have hR2:(R++X.take (64-R.length)).length≤64:=by simp;omega
 refine wp_seq (rg_c FF MM [(0,t_ (sB []))] 5 [] [] (⟨(by kernel_rfl),fun _ _ FF1 MM1=>tN ?_⟩))
 refine wp_seq (rg_dc 9 FF1 MM1 [(6,l_ 0 (iN R.length)),(0,w_ 2)] [(0,r_ (iN (min X.length (64-R.length))) [(0,.cells ((cn .u8 (sPad (R++X.take (64-R.length))))++(#[iN R.length]:Array Value)) 260)])] 6 [] [] (⟨rfl,((cat_r 0 ((cZ _ _).trans (sPad_len hR)) rfl).trans rfl),(by have:=hR;have:=hRs;omega),by decide,(by have:=hR;have:=hRs;omega),(copyStr_ok (p:=.tmp 13) (q:=.tmp 14) (t:=77) (tq:=9) (e:=5) (i:=0) (by kernel_rfl) rfl rfl hX Tryz.underlying77 (by kernel_rfl) rfl (by rw [sblk_size hR];omega) (sfill_cells hR)),fun _ _ FF2 MM2=>tN ?_⟩))
 refine wp_seq (rg_c FF2 MM2 [(3,l_ 0 (iN R.length)),(4,s_ 0 (.cells (sblk (R++X.take (64-R.length))) 260))] 6 [] [] (⟨rfl,((cat_r 0 ((cZ _ _).trans (sPad_len hR2)) rfl).trans rfl),(by have:=hR;omega),rfl,(by simp [cZ,sPad_len hR2]),(.inl rfl),((cat_set_r 0 ((cZ _ _).trans (sPad_len hR2)) rfl).trans (congrArg (_ ++ ·) (by show(#[_]:Array Value)=#[_];rw [show R.length+min X.length (64-R.length)=(R++X.take (64-R.length)).length by simp;omega]))),fun _ _ FF3 MM3=>tN ?_⟩))
 refine wp_seq (rg_c FF3 MM3 [(2,t_ (sB (X.drop (64-R.length))))] 6 [] [] (⟨(by simp only [bs_size];omega),(Nat.zero_le _),(vS2 ((bs_from _ _).trans (congrArg bs (drop_min _ _)))),fun _ _ FF4 MM4=>tN ?_⟩))
 refine wp_ret ?_
 repeat first | refine tR ?_ | refine iR ?_
 exact(ret_fr FF4 0 Tryz.results159 rfl ⟨rfl,MM4.post1 0 rfl hj⟩)
theorem closed_any (Tg:TypeId)(fg:Nat×Nat)(H R:List Nat)(m:Nat)(hH:Wds 8 H)(hRs:R.length<64)(hl:∀i,R.getD i 0<256)(hm:m<2305843009213693952)(w0:World)(hg:w0.heap[0]? = some (.cells (cn .u32 kTab) Tg fg)) :
  Calls Tryz.prog 161 #[.agg (cn .u32 H),.agg (sblk R),iW m] w0 fun e w'=>e=.returned (.agg (cn .u32 (sCl H R (8*m))))∧Below w0.heap.size w0 w':=by
 have MM:=MemS.start1 hg
 refine eF Tryz.func161 rfl Tryz.ntmps161 (by simp) fun ac (FF:Fr 39 ac [(0,.agg (cn .u32 H)),(1,.agg (sblk R)),(2,iW m)])=>?_
 have hR:R.length≤64:=Nat.le_of_lt hRs
 refine wp_seq (rg_c FF MM [(0,s_ 0 (.cells (cn .u32 H) 257)),(0,s_ 0 (.cells (sblk R) 260)),(0,s_ 0 (.cells (cn .u32 (List.replicate 8 0)) 257))] 7 [] [0,1] (⟨(by kernel_rfl),fun bh=>⟨(by kernel_rfl),fun bb=>⟨(by kernel_rfl),fun bo=>fun _ _ FF1 MM1=>tN ?_⟩⟩⟩))
 refine wp_seq (rg_c FF1 MM1 [(1,l_ 1 (iN R.length)),(1,w_ 1),(0,s_ 1 (.cells ((cn .u8 (sEnd R))++(#[iN R.length]:Array Value)) 260))] 7 [] [] (⟨rfl,((cat_r 0 ((cZ _ _).trans (sPad_len hR)) rfl).trans rfl),hRs,rfl,(by rw [sblk_size hR];omega),(.inl rfl),(send_cells hRs),fun _ _ FF2 MM2=>tN ?_⟩))
 refine wp_seq ?_
 refine wp_seq (rg_c FF2 MM2 [(1,l_ 1 (iN R.length))] 7 [14] [] (⟨rfl,((cat_r 0 ((cZ _ _).trans (sEnd_len hR)) rfl).trans rfl),fun _ _ FF3 MM3=>tN ?_⟩))
 by_cases hs14:R.length≥56
 ·refine wp_cond_true ((FF3.ev 0 rfl).trans (dec_t hs14)) ?_
  refine wp_seq (rg_c FF3 MM3 [(0,b_ 2),(1,l_ 1 (.agg (cn .u8 (sEnd R)))),(0,u_ 1 (.agg (cn .u32 (aftN H (sEnd R))))),(0,b_ 2)] 7 [] [] (⟨rfl,((cZ _ _).trans hH.len),rfl,(part_l (pW _)),((cZ _ _).trans (sEnd_len hR)),⟨en_after,fun w Hw=>after_any Tg fg H (sEnd R) ⟨hH.len,hH.lt⟩ ⟨(sEnd_len hR),(sEnd_lt hl)⟩ w (Hw 3 _ rfl)⟩,rfl,((cZ _ _).trans hH.len),((cZ _ _).trans (aftN_wds _ _).len),(cn_one _ _),rfl,fun _ _ FF4 MM4=>tN ?_⟩))
  refine rg_c FF4 MM4 [(0,t_ (.agg ((cn .u8 (List.replicate 64 0))++(#[iN 0]:Array Value)))),(0,b_ 1)] 7 [] [] (⟨(by kernel_rfl),rfl,(by simp [cZ,(sEnd_len hR)]),(by simp [cZ]),(one_app (cn_one _ _) (by kernel_rfl)),rfl,fun _ _ FF5 MM5=>?_⟩)
  refine tN ?_
  refine wp_seq ?_
  have MMo:MemS _ _ _ [_,(bb,.cells ((cn .u8 (ovr (List.replicate 64 0) 56 (beF (8*m)) 0))++(#[iN 0]:Array Value)) 260),_,_] _:=MM5.eqA 1 rfl (by rw [ovr_zero] <;> rfl)
  refine wp_seq (rg_c FF5 MMo [] 21 [] [] (fun _ _ FF6 MM6=>tN ?_))
  refine wp_for (fun a' w'=>∃i:Nat,i≤8∧Fr 39 a' [(20,iN i),(6,pT bo),(4,pT bb),(3,pT bh),(2,iW m)]∧MemS (fun k=>k<w0.heap.size∧k≠0) w0 w' [(bo,.cells (cn .u32 (List.replicate 8 0)) 257),(bb,.cells ((cn .u8 (ovr (List.replicate 64 0) 56 (beF (8*m)) i))++(#[iN 0]:Array Value)) 260),(bh,.cells (cn .u32 (aftN H (sEnd R))) 257),(0,.cells (cn .u32 kTab) Tg fg)] []) (fun a' _=>(8-cnt 20 a').toNat) ⟨0,by omega,FF6.pick [0,1,2,3,4],MM6⟩ ?_
  rintro ac7 wd7 ⟨i,hi,FF7,MM7⟩
  have hci:=cnt_of (FF7.get 0 rfl)
  refine rg_c FF7 MM7 [] 22 [] [] (fun _ _ FF8 MM8=>?_)
  by_cases hlti:i<8
  ·skip
   refine tN (.inl ⟨(FF8.ev 0 rfl).trans (dec_t hlti),?_⟩)
   refine wp_seq (rg_c FF8 MM8 [] 21 [] [] (fun _ _ FF9 MM9=>tN ?_))
   refine rg_c FF9 MM9 [(3,w_ 1),(4,t_ (iB (beF (8*m) i))),(1,w_ 1),(0,s_ 1 (.cells ((cn .u8 (ovr (List.replicate 64 0) 56 (beF (8*m)) (i+1)))++(#[iN 0]:Array Value)) 260))] 21 [] [] (⟨by omega,(by have:=hm;omega),by omega,by omega,by omega,(by show _≤64;have:=hm;omega),rfl,by omega,rfl,(by simp only [Array.size_append,cZ];rw [ovr_len _ (List.length_replicate ..) (by omega)];omega),(.inl rfl),(slen_cells (List.length_replicate ..) hlti),fun _ _ FF10 MM10=>?_⟩)
   refine inb_n (tN ?_)
   refine rg_c FF10 MM10 [] 21 [] [] (⟨by omega,fun _ _ FF11 MM11=>?_⟩)
   have hdi:=cnt_of (FF11.get 0 rfl)
   refine tN ⟨⟨i+1,by omega,FF11.pick [0,2,3,4,5],MM11⟩,?_⟩
   rw [hci,hdi];omega
  ·skip
   refine tN (.inr ⟨(FF8.ev 0 rfl).trans (dec_f hlti),?_⟩)
   obtain rfl:i=8:=by omega
   refine tN ?_
   refine wp_seq (rg_c FF8 MM8 [(0,b_ 2),(1,l_ 1 (.agg (cn .u8 (ovr (List.replicate 64 0) 56 (beF (8*m)) 8)))),(0,u_ 1 (.agg (cn .u32 (aftN (aftN H (sEnd R)) (ovr (List.replicate 64 0) 56 (beF (8*m)) 8))))),(0,b_ 0)] 21 [] [] (⟨rfl,((cZ _ _).trans (aftN_wds _ _).len),rfl,(part_l (pW _)),((cZ _ _).trans (ovr_len _ (List.length_replicate ..) (by omega))),⟨en_after,fun w Hw=>after_any Tg fg (aftN H (sEnd R)) (ovr (List.replicate 64 0) 56 (beF (8*m)) 8) ⟨(aftN_wds _ _).len,(aftN_wds H (sEnd R)).lt⟩ ⟨(ovr_len _ (List.length_replicate ..) (by omega)),(ovr_lt (rep0_lt) (beF_lt _))⟩ w (Hw 3 _ rfl)⟩,rfl,((cZ _ _).trans (List.length_replicate ..)),((cZ _ _).trans (aftN_wds _ _).len),(cn_one _ _),rfl,fun _ _ FF12 MM12=>tN ?_⟩))
   refine wp_ret ?_
   repeat first | refine tR ?_ | refine iR ?_
   exact(retc FF12 MM12 (k:=8) (i:=0) (j:=1) Tryz.results161 rfl rfl Tryz.underlying257 rfl (by kernel_rfl) ((cZ _ _).trans (aftN_wds _ _).len) ⟨by rw [sCl,if_pos (show 56≤R.length by omega)],MM12.below1 3 rfl hg⟩)
 ·refine wp_cond_false ((FF3.ev 0 rfl).trans (dec_f hs14)) ?_
  refine wp_skip ?_
  refine tN ?_
  refine wp_seq ?_
  have MMo:MemS _ _ _ [_,(bb,.cells ((cn .u8 (ovr (sEnd R) 56 (beF (8*m)) 0))++(#[iN R.length]:Array Value)) 260),_,_] _:=MM3.eqA 1 rfl (by rw [ovr_zero] <;> rfl)
  refine wp_seq (rg_c FF3 MMo [] 7 [20] [] (fun _ _ FF13 MM13=>tN ?_))
  refine wp_for (fun a' w'=>∃i:Nat,i≤8∧Fr 39 a' [(20,iN i),(6,pT bo),(4,pT bb),(3,pT bh),(2,iW m)]∧MemS (fun k=>k<w0.heap.size∧k≠0) w0 w' [(bo,.cells (cn .u32 (List.replicate 8 0)) 257),(bb,.cells ((cn .u8 (ovr (sEnd R) 56 (beF (8*m)) i))++(#[iN R.length]:Array Value)) 260),(bh,.cells (cn .u32 H) 257),(0,.cells (cn .u32 kTab) Tg fg)] []) (fun a' _=>(8-cnt 20 a').toNat) ⟨0,by omega,FF13.pick [0,1,2,3,4],MM13⟩ ?_
  rintro ac14 wd14 ⟨i,hi,FF14,MM14⟩
  have hci:=cnt_of (FF14.get 0 rfl)
  refine rg_c FF14 MM14 [] 22 [] [] (fun _ _ FF15 MM15=>?_)
  by_cases hlti:i<8
  ·skip
   refine tN (.inl ⟨(FF15.ev 0 rfl).trans (dec_t hlti),?_⟩)
   refine wp_seq (rg_c FF15 MM15 [] 21 [] [] (fun _ _ FF16 MM16=>tN ?_))
   refine rg_c FF16 MM16 [(3,w_ 1),(4,t_ (iB (beF (8*m) i))),(1,w_ 1),(0,s_ 1 (.cells ((cn .u8 (ovr (sEnd R) 56 (beF (8*m)) (i+1)))++(#[iN R.length]:Array Value)) 260))] 21 [] [] (⟨by omega,(by have:=hm;omega),by omega,by omega,by omega,(by show _≤64;have:=hm;omega),rfl,by omega,rfl,(by simp only [Array.size_append,cZ];rw [ovr_len _ (sEnd_len hR) (by omega)];omega),(.inl rfl),(slen_cells (sEnd_len hR) hlti),fun _ _ FF17 MM17=>?_⟩)
   refine inb_n (tN ?_)
   refine rg_c FF17 MM17 [] 21 [] [] (⟨by omega,fun _ _ FF18 MM18=>?_⟩)
   have hdi:=cnt_of (FF18.get 0 rfl)
   refine tN ⟨⟨i+1,by omega,FF18.pick [0,2,3,4,5],MM18⟩,?_⟩
   rw [hci,hdi];omega
  ·skip
   refine tN (.inr ⟨(FF15.ev 0 rfl).trans (dec_f hlti),?_⟩)
   obtain rfl:i=8:=by omega
   refine tN ?_
   refine wp_seq (rg_c FF15 MM15 [(0,b_ 2),(1,l_ 1 (.agg (cn .u8 (ovr (sEnd R) 56 (beF (8*m)) 8)))),(0,u_ 1 (.agg (cn .u32 (aftN H (ovr (sEnd R) 56 (beF (8*m)) 8))))),(0,b_ 0)] 21 [] [] (⟨rfl,((cZ _ _).trans hH.len),rfl,(part_l (pW _)),((cZ _ _).trans (ovr_len _ (sEnd_len hR) (by omega))),⟨en_after,fun w Hw=>after_any Tg fg H (ovr (sEnd R) 56 (beF (8*m)) 8) ⟨hH.len,hH.lt⟩ ⟨(ovr_len _ (sEnd_len hR) (by omega)),(ovr_lt (sEnd_lt hl) (beF_lt _))⟩ w (Hw 3 _ rfl)⟩,rfl,((cZ _ _).trans (List.length_replicate ..)),((cZ _ _).trans (aftN_wds _ _).len),(cn_one _ _),rfl,fun _ _ FF19 MM19=>tN ?_⟩))
   refine wp_ret ?_
   repeat first | refine tR ?_ | refine iR ?_
   exact(retc FF19 MM19 (k:=8) (i:=0) (j:=1) Tryz.results161 rfl rfl Tryz.underlying257 rfl (by kernel_rfl) ((cZ _ _).trans (aftN_wds _ _).len) ⟨by rw [sCl,if_neg (show ¬56≤R.length by omega)],MM19.below1 3 rfl hg⟩)
theorem digest_any (H:List Nat)(hH:Wds 8 H)(w0:World) :
  Calls Tryz.prog 162 #[.agg (cn .u32 H)] w0 fun e w'=>e=.returned (.agg (cn .u8 (dgN H)))∧Below w0.heap.size w0 w':=by
 refine eF Tryz.func162 rfl Tryz.ntmps162 (by simp) fun ac (FF:Fr 39 ac [(0,.agg (cn .u32 H))])=>?_
 have MM:=MemS.start w0
 refine wp_seq (rg_c FF MM [(0,s_ 0 (.cells (cn .u32 H) 257)),(0,s_ 0 (.cells (cn .u8 (List.replicate 32 0)) 52))] 3 [] [0] (⟨(by kernel_rfl),fun bh=>⟨(by kernel_rfl),fun bo=>fun _ _ FF1 MM1=>tN ?_⟩⟩))
 refine wp_seq (rg_c FF1 MM1 [(0,s_ 0 (.cells (cn .u8 (List.replicate 32 0)) 52))] 4 [] [] (⟨(by kernel_rfl),fun bk=>fun _ _ FF2 MM2=>tN ?_⟩))
 have MMr4:MemS _ _ _ [(bk,.cells (cn .u8 (genL 32 (dgF H) (4*0))) 52),_,_] _:=MM2.eqA 0 rfl (by rw [←genL_zero 32 (dgF H)] <;> rfl)
 refine wp_seq ?_
 refine wp_seq (rg_c FF2 MMr4 [(0,b_ 2)] 8 [] [1] (⟨rfl,((cZ _ _).trans hH.len),fun _ _ FF3 MM3=>tN ?_⟩))
 refine wp_for (fun a' w'=>∃i:Nat,i≤8∧Fr 39 a' [(7,iN i),(6,.agg (cn .u32 H)),(3,pT bk),(2,pT bo)]∧MemS (fun k=>k<w0.heap.size) w0 w' [(bk,.cells (cn .u8 (genL 32 (dgF H) (4*i))) 52),(bo,.cells (cn .u8 (List.replicate 32 0)) 52),(bh,.cells (cn .u32 H) 257)] []) (fun a' _=>(8-cnt 7 a').toNat) ⟨0,by omega,FF3.pick [0,1,2,3],MM3⟩ ?_
 rintro ac4 wd4 ⟨i,hi,FF4,MM4⟩
 have hci:=cnt_of (FF4.get 0 rfl)
 refine rg_c FF4 MM4 [] 9 [] [] (fun _ _ FF5 MM5=>?_)
 by_cases hlti:i<8
 ·skip
  refine tN (.inl ⟨(FF5.ev 0 rfl).trans (dec_t hlti),?_⟩)
  refine wp_seq (rg_c FF5 MM5 [(1,t_ (.int .u32 (H.getD i 0:Nat)))] 8 [] [] (⟨by omega,(cn_get _ _ _ (by rw [hH.len];omega)),fun _ _ FF6 MM6=>tN ?_⟩))
  refine rg_c FF6 MM6 [(12,t_ (.int .u32 ((H.getD i 0)/16777216:Nat))),(2,t_ (.int .u32 ((H.getD i 0)/65536:Nat))),(2,t_ (.int .u32 ((H.getD i 0)/256:Nat))),(3,w_ 1),(0,s_ 0 (.cells (cn .u8 (genL 32 (dgF H) (4*i+1))) 52)),(0,w_ 1),(0,s_ 0 (.cells (cn .u8 (genL 32 (dgF H) (4*i+2))) 52)),(0,w_ 1),(0,s_ 0 (.cells (cn .u8 (genL 32 (dgF H) (4*i+3))) 52)),(0,w_ 1),(0,s_ 0 (.cells (cn .u8 (genL 32 (dgF H) (4*(i+1)))) 52))] 8 [] [] (⟨by omega,by omega,by omega,by omega,by omega,by omega,by omega,by decide,rfl,by decide,rfl,by decide,rfl,(by have:=hi;omega),rfl,(by rw [cZ,(genL_len _ _ _)];omega),(.inl rfl),((cn_set _ _ _ _).trans (congrArg _ (genL_step _ _ (4*i) (by omega) (dgF_0 H i)))),(by have:=hi;omega),rfl,(by rw [cZ,(genL_len _ _ _)];omega),(.inl rfl),((cn_set _ _ _ _).trans (congrArg _ (genL_step _ _ (4*i+1) (by omega) (dgF_1 H i)))),(by have:=hi;omega),rfl,(by rw [cZ,(genL_len _ _ _)];omega),(.inl rfl),((cn_set _ _ _ _).trans (congrArg _ (genL_step _ _ (4*i+2) (by omega) (dgF_2 H i)))),(by have:=hi;omega),rfl,(by rw [cZ,(genL_len _ _ _)];omega),(.inl rfl),((cn_set _ _ _ _).trans (congrArg _ (genL_step _ _ (4*i+3) (by omega) (dgF_3 H i)))),fun _ _ FF7 MM7=>?_⟩)
  refine inb_n (tN ?_)
  refine rg_c FF7 MM7 [] 8 [] [] (⟨by omega,fun _ _ FF8 MM8=>?_⟩)
  have hdi:=cnt_of (FF8.get 0 rfl)
  refine tN ⟨⟨i+1,by omega,FF8.pick [0,3,4,5],MM8⟩,?_⟩
  rw [hci,hdi];omega
 ·skip
  refine tN (.inr ⟨(FF5.ev 0 rfl).trans (dec_f hlti),?_⟩)
  obtain rfl:i=8:=by omega
  refine tN ?_
  refine wp_seq (rg_c FF5 MM5 [(0,b_ 0),(0,b_ 1)] 8 [] [] (⟨rfl,((cZ _ _).trans (genL_len _ _ _)),rfl,((cZ _ _).trans (List.length_replicate ..)),((cZ _ _).trans (genL_len _ _ _)),(cn_one _ _),rfl,fun _ _ FF9 MM9=>tN ?_⟩))
  refine wp_ret ?_
  repeat first | refine tR ?_ | refine iR ?_
  exact(retc FF9 MM9 (k:=32) (i:=1) (j:=3) Tryz.results162 rfl rfl Tryz.underlying52 rfl (by kernel_rfl) ((cZ _ _).trans (genL_len _ _ _)) ⟨rfl,MM9.below⟩)
set_option maxHeartbeats 1000000 in
theorem ssum_some (Tg:TypeId)(fg:Nat×Nat)(Ps:List (List Nat))(hP:∀X∈Ps,∀i,X.getD i 0<256)(hn:Ps.length<9223372036854775808)(pb off cap T9:Nat)(fr:Nat×Nat)(cs:Array Value)(hp:∀j,j<Ps.length→cs[off+j]? = some (sB (Ps.getD j [])))(hl:Ps.flatten.length<2305843009213693952)(hD:Distinct [(0,.cells (cn .u32 kTab) Tg fg),(pb,.cells cs T9 fr)])(w0:World)(H:Has w0 [(0,.cells (cn .u32 kTab) Tg fg),(pb,.cells cs T9 fr)]) :
  Calls Tryz.prog 131 #[.slice (some ⟨pb,off,none⟩) Ps.length cap] w0 fun e w'=>e=.returned (.agg (cn .u8 (shaN Ps.flatten)))∧Below w0.heap.size w0 w':=by
 have MM:=MemS.startN H hD
 refine eF Tryz.func131 rfl Tryz.ntmps131 (by simp) fun ac (FF:Fr 39 ac [(0,.slice (some ⟨pb,off,none⟩) Ps.length cap)])=>?_
 refine wp_seq (rg_c FF MM [(0,s_ 0 (.cells (cn .u8 (List.replicate 32 0)) 52))] 3 [] [] (⟨(by kernel_rfl),fun bo=>fun _ _ FF1 MM1=>tN ?_⟩))
 refine wp_seq (rg_c FF1 MM1 [(0,t_ (.agg (cn .u32 iv))),(0,s_ 0 (.cells (cn .u32 (List.replicate 8 0)) 257)),(0,b_ 0)] 4 [] [] (⟨(cP en_first first_any _),(by kernel_rfl),fun bh=>⟨rfl,((cZ _ _).trans (List.length_replicate ..)),((cZ _ _).trans iv_wds.len),(cn_one _ _),rfl,fun _ _ FF2 MM2=>tN ?_⟩⟩))
 refine wp_seq (rg_c FF2 MM2 [(0,s_ 0 (.cells ((cn .u8 (List.replicate 64 0))++(#[iN 0]:Array Value)) 260))] 5 [] [] (⟨(by kernel_rfl),fun bb=>fun _ _ FF3 MM3=>tN ?_⟩))
 refine wp_seq (rg_c FF3 MM3 [] 6 [] [] (fun _ wd4 FF4 MM4=>tN ?_))
 have hn0:∀i,([]:List Nat).getD i 0<256:=nil_lt
 have MMs:MemS (fun k=>k<w0.heap.size∧∀x∈[(0,Obj.cells (cn .u32 kTab) Tg fg),(pb,.cells cs T9 fr)],x.1≠k) w0 wd4 [(bb,.cells (sblk (sRem [])) 260),(bh,.cells (cn .u32 (sH [])) 257),(bo,.cells (cn .u8 (List.replicate 32 0)) 52),(0,.cells (cn .u32 kTab) Tg fg),(pb,.cells cs T9 fr)] []:=by rw [show sRem []=[]from rfl,←szero,show sH []=iv from rfl];exact MM4
 refine wp_seq ?_
 refine wp_seq (rg_c FF4 MMs [] 12 [] [0] (fun _ _ FF5 MM5=>tN ?_))
 refine wp_for (fun a' w'=>∃j:Nat,j≤Ps.length∧Fr 39 a' [(11,iN j),(10,iN Ps.length),(9,.slice (some ⟨pb,off,none⟩) Ps.length cap),(5,iW ((Ps.take j).flatten.length)),(4,pT bb),(3,pT bh),(2,pT bo)]∧MemS (fun k=>k<w0.heap.size∧∀x∈[(0,Obj.cells (cn .u32 kTab) Tg fg),(pb,.cells cs T9 fr)],x.1≠k) w0 w' [(bb,.cells (sblk (sRem ((Ps.take j).flatten))) 260),(bh,.cells (cn .u32 (sH ((Ps.take j).flatten))) 257),(bo,.cells (cn .u8 (List.replicate 32 0)) 52),(0,.cells (cn .u32 kTab) Tg fg),(pb,.cells cs T9 fr)] []) (fun a' _=>(Ps.length-cnt 11 a').toNat) ⟨0,by omega,FF5.pick [0,1,2,3,4,5,6],MM5⟩ ?_
 rintro ac6 wd6 ⟨j,hj,FF6,MM6⟩
 have hc:=cnt_of (FF6.get 0 rfl)
 refine rg_c FF6 MM6 [] 13 [] [] (fun _ _ FF7 MM7=>?_)
 by_cases hlt:j<Ps.length
 ·skip
  refine tN (.inl ⟨(FF7.ev 0 rfl).trans (dec_t hlt),?_⟩)
  have hPj:∀i,(Ps.getD j []).getD i 0<256:=hP _ (by rw [List.getD_eq_getElem?_getD,List.getElem?_eq_getElem hlt];exact List.getElem_mem hlt)
  have hft:=congrArg List.length (flat_take Ps j hlt)
  rw [List.length_append]at hft
  have hfl:=flat_le Ps (j+1)
  refine wp_seq (rg_c FF7 MM7 [(1,l_ 4 (sB (Ps.getD j [])))] 12 [] [] (⟨by omega,rfl,(hp j hlt),fun _ _ FF8 MM8=>tN ?_⟩))
  refine wp_seq (rg_c FF8 MM8 [(2,t_ (iN ((Ps.getD j []).length))),(0,w_ 1),(0,u_ 1 (iW ((Ps.take (j+1)).flatten.length)))] 12 [] [] (⟨(vI (bs_size _)),by omega,by omega,(vI hft.symm),fun _ _ FF9 MM9=>tN ?_⟩))
  refine wp_for2w (fun a' w'=>∃C:List Nat,∃X:List Nat,C++X=(Ps.take j).flatten++Ps.getD j []∧(∀i,C.getD i 0<256)∧(∀i,X.getD i 0<256)∧Fr 39 a' [(5,iW ((Ps.take (j+1)).flatten.length)),(7,sB X),(11,iN j),(10,iN Ps.length),(9,.slice (some ⟨pb,off,none⟩) Ps.length cap),(4,pT bb),(3,pT bh),(2,pT bo)]∧MemS (fun k=>k<w0.heap.size∧∀x∈[(0,Obj.cells (cn .u32 kTab) Tg fg),(pb,.cells cs T9 fr)],x.1≠k) w0 w' [(bb,.cells (sblk (sRem C)) 260),(bh,.cells (cn .u32 (sH C)) 257),(bo,.cells (cn .u8 (List.replicate 32 0)) 52),(0,.cells (cn .u32 kTab) Tg fg),(pb,.cells cs T9 fr)] []) (fun a' _=>strLen 7 a') ⟨(Ps.take j).flatten,Ps.getD j [],rfl,flat_lt (fun Y hY=>hP Y (List.mem_of_mem_take hY)),hPj,FF9.pick [0,1,2,3,4,5,6,7],MM9⟩ ?_
  rintro ac10 wd10 ⟨C,X,hC,hCl,hXl,FF10,MM10⟩
  have hm1:=strLen_of (FF10.get 1 rfl)
  refine rg_c FF10 MM10 [(1,t_ (iN X.length))] 12 [22] [] (⟨(vI (bs_size _)),fun _ _ FF11 MM11=>?_⟩)
  by_cases hX0:X.length>0
  ·skip
   refine tN (.inl ⟨(FF11.ev 0 rfl).trans (dec_t hX0),?_⟩)
   refine wp_seq (rg_c FF11 MM11 [(1,c_ (sB (X.drop (64-(sRem C).length))) [(0,.cells (sblk ((sRem C)++X.take (64-(sRem C).length))) 260)])] 12 [] [] (⟨⟨en_sfill,fun w H=>sfill_any _ _ _ 0 (srem_lt C) hXl _ rfl w H⟩,fun _ _ FF12 MM12=>tN ?_⟩))
   refine wp_seq (rg_c FF12 MM12 [(1,l_ 0 (iN (((sRem C)++X.take (64-(sRem C).length)).length)))] 12 [27] [] (⟨rfl,((cat_r 0 ((cZ _ _).trans (sPad_len (sfill_len (srem_le _)))) rfl).trans rfl),fun _ wd13 FF13 MM13=>tN ?_⟩))
   by_cases hs27:(((sRem C)++X.take (64-(sRem C).length)).length)=64
   ·refine wp_cond_true ((FF13.ev 0 rfl).trans (dec_t hs27)) ?_
    refine wp_seq (rg_c FF13 MM13 [(0,b_ 1),(1,l_ 0 (.agg (cn .u8 (sPad ((sRem C)++X.take (64-(sRem C).length)))))),(0,u_ 1 (.agg (cn .u32 (aftN (sH C) (sPad ((sRem C)++X.take (64-(sRem C).length))))))),(0,b_ 1)] 12 [] [] (⟨rfl,((cZ _ _).trans (sHs_wds C _).len),rfl,(part_l (pW _)),((cZ _ _).trans (sPad_len (sfill_len (srem_le _)))),⟨en_after,fun w Hw=>after_any Tg fg (sH C) (sPad ((sRem C)++X.take (64-(sRem C).length))) ⟨(sHs_wds C _).len,(sHs_wds C _).lt⟩ ⟨(sPad_len (sfill_len (srem_le _))),(sPad_lt (sfill_lt (sRem_lt hCl) hXl))⟩ w (Hw 3 _ rfl)⟩,rfl,((cZ _ _).trans (sHs_wds C _).len),((cZ _ _).trans (aftN_wds _ _).len),(cn_one _ _),rfl,fun _ _ FF14 MM14=>tN ?_⟩))
    refine rg_c FF14 MM14 [(0,t_ (.agg ((cn .u8 (List.replicate 64 0))++(#[iN 0]:Array Value)))),(0,b_ 0)] 12 [] [] (⟨(by kernel_rfl),rfl,(sblk_size (sfill_len (srem_le _))),(by simp [cZ]),(one_app (cn_one _ _) (by kernel_rfl)),rfl,fun _ wd15 FF15 MM15=>?_⟩)
    refine inb_n ?_
    have hst:=s_full C (X.take (64-(sRem C).length)) hs27
    have hl2:∀i,(C++X.take (64-(sRem C).length)).getD i 0<256:=app_lt hCl (take_lt hXl)
    have MMf:=MM15
    rw [sPad_full hs27,szero]at MMf
    have MMx:MemS (fun k=>k<w0.heap.size∧∀x∈[(0,Obj.cells (cn .u32 kTab) Tg fg),(pb,.cells cs T9 fr)],x.1≠k) w0 wd15 [(bb,.cells (sblk (sRem (C++X.take (64-(sRem C).length)))) 260),(bh,.cells (cn .u32 (sH (C++X.take (64-(sRem C).length)))) 257),(bo,.cells (cn .u8 (List.replicate 32 0)) 52),(0,.cells (cn .u32 kTab) Tg fg),(pb,.cells cs T9 fr)] []:=by rw [hst.1,hst.2];exact MMf
    have hm2:=strLen_of (FF15.get 0 rfl)
    refine tN ⟨⟨C++X.take (64-(sRem C).length),X.drop (64-(sRem C).length),by rw [List.append_assoc,List.take_append_drop,hC],hl2,drop_lt hXl,FF15.pick [1,0,2,3,4,5,6,7],MMx⟩,?_⟩
    rw [hm1,hm2,bs_size,bs_size,List.length_drop];have:=sRem_len C;omega
   ·refine wp_cond_false ((FF13.ev 0 rfl).trans (dec_f hs27)) ?_
    refine wp_skip ?_
    refine inb_n ?_
    have hst:=s_in C (X.take (64-(sRem C).length)) (by have:=sfill_len (X:=X) (srem_le C);omega)
    have hl2:∀i,(C++X.take (64-(sRem C).length)).getD i 0<256:=app_lt hCl (take_lt hXl)
    have MMx:MemS (fun k=>k<w0.heap.size∧∀x∈[(0,Obj.cells (cn .u32 kTab) Tg fg),(pb,.cells cs T9 fr)],x.1≠k) w0 wd13 [(bb,.cells (sblk (sRem (C++X.take (64-(sRem C).length)))) 260),(bh,.cells (cn .u32 (sH (C++X.take (64-(sRem C).length)))) 257),(bo,.cells (cn .u8 (List.replicate 32 0)) 52),(0,.cells (cn .u32 kTab) Tg fg),(pb,.cells cs T9 fr)] []:=by rw [hst.1,hst.2];exact MM13
    have hm2:=strLen_of (FF13.get 1 rfl)
    refine tN ⟨⟨C++X.take (64-(sRem C).length),X.drop (64-(sRem C).length),by rw [List.append_assoc,List.take_append_drop,hC],hl2,drop_lt hXl,FF13.pick [2,1,3,4,5,6,7,8],MMx⟩,?_⟩
    rw [hm1,hm2,bs_size,bs_size,List.length_drop];have:=sRem_len C;omega
  ·skip
   refine tN (.inr ⟨(FF11.ev 0 rfl).trans (dec_f hX0),?_⟩)
   obtain rfl:X=[]:=List.eq_nil_of_length_eq_zero (by omega)
   rw [List.append_nil]at hC
   rw [←flat_take Ps j hlt]at hC
   subst hC
   refine inb_n (tN ?_)
   refine rg_c FF11 MM11 [] 12 [] [] (⟨by omega,fun _ _ FF16 MM16=>?_⟩)
   have hc2:=cnt_of (FF16.get 0 rfl)
   refine tN ⟨⟨j+1,by omega,FF16.pick [0,3,4,1,5,6,7],MM16⟩,?_⟩
   rw [hc,hc2];omega
 ·skip
  refine tN (.inr ⟨(FF7.ev 0 rfl).trans (dec_f hlt),?_⟩)
  obtain rfl:j=Ps.length:=by omega
  rw [List.take_length]at MM7 FF7
  have hTl:∀i,Ps.flatten.getD i 0<256:=flat_lt hP
  refine tN ?_
  refine wp_seq (rg_c FF7 MM7 [(0,b_ 1),(0,b_ 0),(1,u_ 1 (.agg (cn .u32 (sCl (sH Ps.flatten) (sRem Ps.flatten) (8*Ps.flatten.length))))),(0,t_ (.agg (cn .u8 (dgN (sCl (sH Ps.flatten) (sRem Ps.flatten) (8*Ps.flatten.length)))))),(0,b_ 2)] 12 [] [] (⟨rfl,((cZ _ _).trans (sHs_wds Ps.flatten _).len),rfl,(sblk_size (srem_le _)),⟨en_closed,fun w Hw=>closed_any Tg fg (sH Ps.flatten) (sRem Ps.flatten) Ps.flatten.length ⟨(sHs_wds Ps.flatten _).len,(sHs_wds Ps.flatten _).lt⟩ (srem_lt _) (sRem_lt hTl) hl w (Hw 3 _ rfl)⟩,(cP en_digest (digest_any (sCl (sH Ps.flatten) (sRem Ps.flatten) (8*Ps.flatten.length)) ⟨(sCl_wds _ _ _).len,(sCl_wds (sH Ps.flatten) (sRem Ps.flatten) (8*Ps.flatten.length)).lt⟩) _),rfl,((cZ _ _).trans (List.length_replicate ..)),((cZ _ _).trans (dgN_bytes _).len),(cn_one _ _),rfl,fun _ _ FF17 MM17=>tN ?_⟩))
  refine wp_ret ?_
  repeat first | refine tR ?_ | refine iR ?_
  exact(retc FF17 MM17 (k:=32) (i:=2) (j:=6) Tryz.results131 rfl rfl Tryz.underlying52 rfl (by kernel_rfl) ((cZ _ _).trans (dgN_bytes _).len) ⟨rfl,MM17.belowN H (fun x hx=>List.mem_cons_of_mem _ (List.mem_cons_of_mem _ (List.mem_cons_of_mem _ (hx))))⟩)
set_option maxHeartbeats 1000000 in
theorem ssum_empty (Tg:TypeId)(fg:Nat×Nat)(p:Option Addr)(cap:Nat)(w0:World)(hg:w0.heap[0]? = some (.cells (cn .u32 kTab) Tg fg)) :
  Calls Tryz.prog 131 #[.slice p 0 cap] w0 fun e w'=>e=.returned (.agg (cn .u8 (shaN [])))∧Below w0.heap.size w0 w':=by
 have MM:=MemS.start1 hg
 refine eF Tryz.func131 rfl Tryz.ntmps131 (by simp) fun ac (FF:Fr 39 ac [(0,.slice p 0 cap)])=>?_
 refine wp_seq (rg_c FF MM [(0,s_ 0 (.cells (cn .u8 (List.replicate 32 0)) 52))] 3 [] [] (⟨(by kernel_rfl),fun bo=>fun _ _ FF1 MM1=>tN ?_⟩))
 refine wp_seq (rg_c FF1 MM1 [(0,t_ (.agg (cn .u32 iv))),(0,s_ 0 (.cells (cn .u32 (List.replicate 8 0)) 257)),(0,b_ 0)] 4 [] [] (⟨(cP en_first first_any _),(by kernel_rfl),fun bh=>⟨rfl,((cZ _ _).trans (List.length_replicate ..)),((cZ _ _).trans iv_wds.len),(cn_one _ _),rfl,fun _ _ FF2 MM2=>tN ?_⟩⟩))
 refine wp_seq (rg_c FF2 MM2 [(0,s_ 0 (.cells ((cn .u8 (List.replicate 64 0))++(#[iN 0]:Array Value)) 260))] 5 [] [] (⟨(by kernel_rfl),fun bb=>fun _ _ FF3 MM3=>tN ?_⟩))
 refine wp_seq (rg_c FF3 MM3 [] 6 [] [] (fun _ wd4 FF4 MM4=>tN ?_))
 have hn0:∀i,([]:List Nat).getD i 0<256:=nil_lt
 have MMs:MemS (fun k=>k<w0.heap.size∧k≠0) w0 wd4 [(bb,.cells (sblk (sRem [])) 260),(bh,.cells (cn .u32 (sH [])) 257),(bo,.cells (cn .u8 (List.replicate 32 0)) 52),(0,.cells (cn .u32 kTab) Tg fg)] []:=by rw [show sRem []=[]from rfl,←szero,show sH []=iv from rfl];exact MM4
 refine wp_seq ?_
 refine wp_seq (rg_c FF4 MMs [] 12 [] [0] (fun _ _ FF5 MM5=>tN ?_))
 refine wp_for (fun a' w'=>Fr 39 a' [(11,iN 0),(10,iN 0),(9,.slice p 0 cap),(5,iW 0),(4,pT bb),(3,pT bh),(2,pT bo)]∧MemS (fun k=>k<w0.heap.size∧k≠0) w0 w' [(bb,.cells (sblk (sRem [])) 260),(bh,.cells (cn .u32 (sH [])) 257),(bo,.cells (cn .u8 (List.replicate 32 0)) 52),(0,.cells (cn .u32 kTab) Tg fg)] []) (fun _ _=>0) ⟨FF5.pick [0,1,2,3,4,5,6],MM5⟩ ?_
 rintro ac6 wd6 ⟨FF6,MM6⟩
 refine rg_c FF6 MM6 [(0,w_ 3)] 13 [] [] (⟨by decide,fun _ _ FF7 MM7=>?_⟩)
 refine tN (.inr ⟨FF7.ev 0 rfl,?_⟩)
 refine tN ?_
 have hTl:∀i,([]:List Nat).getD i 0<256:=nil_lt
 refine wp_seq (rg_c FF7 MM7 [(0,b_ 1),(0,b_ 0),(1,u_ 1 (.agg (cn .u32 (sCl (sH []) (sRem []) (8*0))))),(0,t_ (.agg (cn .u8 (dgN (sCl (sH []) (sRem []) (8*0)))))),(0,b_ 2)] 12 [] [] (⟨rfl,((cZ _ _).trans (sHs_wds [] _).len),rfl,(sblk_size (srem_le _)),⟨en_closed,fun w Hw=>closed_any Tg fg (sH []) (sRem []) 0 ⟨(sHs_wds [] _).len,(sHs_wds [] _).lt⟩ (srem_lt _) (sRem_lt hTl) (by decide) w (Hw 3 _ rfl)⟩,(cP en_digest (digest_any (sCl (sH []) (sRem []) (8*0)) ⟨(sCl_wds _ _ _).len,(sCl_wds (sH []) (sRem []) (8*0)).lt⟩) _),rfl,((cZ _ _).trans (List.length_replicate ..)),((cZ _ _).trans (dgN_bytes _).len),(cn_one _ _),rfl,fun _ _ FF8 MM8=>tN ?_⟩))
 refine wp_ret ?_
 repeat first | refine tR ?_ | refine iR ?_
 exact(retc FF8 MM8 (k:=32) (i:=2) (j:=6) Tryz.results131 rfl rfl Tryz.underlying52 rfl (by kernel_rfl) ((cZ _ _).trans (dgN_bytes _).len) ⟨rfl,MM8.below1 3 rfl hg⟩)
theorem ktab_int (i:Nat)(v:Value)(h:(cn .u32 kTab)[i]? = some v)(s:ByteArray):v≠.string s:=fun e=>by
 subst e
 simp [cn]at h
theorem ssum_any (Tg:TypeId)(fg:Nat×Nat)(Ps:List (List Nat))(hP:∀X∈Ps,∀i,X.getD i 0<256)(hn:Ps.length<9223372036854775808)(pb off cap T9:Nat)(fr:Nat×Nat)(cs:Array Value)(hp:∀j,j<Ps.length→cs[off+j]? = some (sB (Ps.getD j [])))(hl:Ps.flatten.length<2305843009213693952)(w0:World)(hg:w0.heap[0]? = some (.cells (cn .u32 kTab) Tg fg))(hb:w0.heap[pb]? = some (.cells cs T9 fr)) :
  Calls Tryz.prog 131 #[.slice (some ⟨pb,off,none⟩) Ps.length cap] w0 fun e w'=>e=.returned (.agg (cn .u8 (shaN Ps.flatten)))∧Below w0.heap.size w0 w':=by
 rcases Nat.eq_zero_or_pos Ps.length with h0 | h0
 ·obtain rfl:Ps=[]:=List.eq_nil_of_length_eq_zero h0
  exact ssum_empty Tg fg _ cap w0 hg
 ·refine ssum_some Tg fg Ps hP hn pb off cap T9 fr cs hp hl ⟨fun y hy=>?_,fun y hy=>(nomatch hy),trivial⟩ w0 fun i x hx=>?_
  ·obtain rfl:=List.mem_singleton.1 hy
   intro e
   have e:pb=0:=by simpa using e
   subst e
   rw [hg]at hb
   have e3:cn .u32 kTab=cs:=by injection (Option.some.inj hb)
   have:=hp 0 h0
   rw [←e3]at this
   exact ktab_int _ _ this _ rfl
  ·match i,hx with
   | 0,hx=>cases hx;exact hg
   | 1,hx=>cases hx;exact hb
   | i+2,hx=>simp at hx
def leF (n i:Nat):Nat:=n/2^(8*i)%256
theorem leF_lt (n i:Nat):leF n i<256:=Nat.mod_lt _ (by decide)
def leN (k n:Nat):List Nat:=genL k (leF n) k
theorem leN_len (k n:Nat):(leN k n).length=k:=genL_len _ _ _
theorem leN_lt (k n:Nat)(i:Nat):(leN k n).getD i 0<256:=genL_lt (by decide) (leF_lt n) k i
theorem leN_map (k n:Nat):leN k n=(List.range k).map (leF n):=by
 refine List.ext_getElem (by simp [leN,genL]) fun i h1 h2=>?_
 have:i<k:=by simpa [leN,genL]using h1
 simp [leN,genL,this]
theorem leN4 (n:Nat):[n%256,n/256%256,n/65536%256,n/16777216%256]=leN 4 n:=by
 rw [leN_map]
 simp [List.range_succ,leF]
def packN:List (List Nat)→List Nat
 | []=>[]
 | X::r=>leN 4 X.length++X++packN r
theorem packN_app:∀(Ps Qs:List (List Nat)),packN (Ps++Qs)=packN Ps++packN Qs
 | [],_=>rfl
 | X::r,Qs=>by rw [List.cons_append,packN,packN,packN_app r Qs];simp only [List.append_assoc]
theorem packN_take (Ps:List (List Nat))(i:Nat)(h:i<Ps.length):packN (Ps.take (i+1))=packN (Ps.take i)++leN 4 (Ps.getD i []).length++Ps.getD i []:=by
 rw [List.take_add_one,packN_app,List.getElem?_eq_getElem h]
 simp [packN,List.getD_eq_getElem?_getD,List.getElem?_eq_getElem h]
theorem packN_len:∀Ps:List (List Nat),(packN Ps).length=4*Ps.length+Ps.flatten.length
 | []=>rfl
 | X::r=>by simp only [packN,List.length_append,leN_len,packN_len r,List.length_cons,List.flatten_cons];omega
theorem packN_lt:∀{Ps:List (List Nat)},(∀X∈Ps,∀i,X.getD i 0<256)→∀i,(packN Ps).getD i 0<256
 | [],_,i=>by simp [packN]
 | X::r,h,i=>app_lt (app_lt (leN_lt 4 _) (h X (by simp))) (packN_lt fun Y hY=>h Y (by simp [hY])) i
theorem packN_le (Ps:List (List Nat))(i:Nat):(packN (Ps.take i)).length≤(packN Ps).length:=by
 have:=flat_le Ps i
 rw [packN_len,packN_len,List.length_take]
 omega
theorem getD_lt {Ps:List (List Nat)}(hP:∀X∈Ps,∀i,X.getD i 0<256){j:Nat}(h:j<Ps.length):∀i,(Ps.getD j []).getD i 0<256:=hP _ (by rw [List.getD_eq_getElem?_getD,List.getElem?_eq_getElem h];exact List.getElem_mem h)
theorem flat2 (A B:List Nat):[A,B].flatten=A++B:=by simp
theorem lt2 {A B:List Nat}(h1:∀i,A.getD i 0<256)(h2:∀i,B.getD i 0<256):∀V∈[A,B],∀i,V.getD i 0<256:=fun V hV=>by
 simp only [List.mem_cons,List.not_mem_nil,or_false]at hV
 rcases hV with rfl | rfl <;> assumption
theorem at1s (X:List Nat):∀j,j < [X].length→(#[sB X]:Array Value)[0+j]? = some (sB ([X].getD j [])):=fun j h=>by rw [Nat.zero_add];exact parts1 X j h
theorem at2s (A B:List Nat):∀j,j < [A,B].length→(#[sB A,sB B]:Array Value)[0+j]? = some (sB ([A,B].getD j [])):=fun j h=>by
 have:j=0∨j=1:=by simp at h;omega
 rcases this with rfl | rfl <;> rfl
end Go.Proofs.YtdokjecjiifciaaGreatDoor
namespace Go.Proofs.YtdokjecjiifciaaGreatDoor
open Go.RowKit
section
variable {P:Program} {l:Slots} {L:Blks} {o:Oper} {x y:Operand}
theorem ptrSame_ok {t t' e:TypeId}{ad:Addr}(ho:o.op=.binOp .neq t x y t')(hx:evO l x=some (.pointer (some ad)))(hy:evO l y=some (.pointer (some ad)))(hu:P.underlying t=some (.pointer e))(he:(P.info? e).isSome=true):RunV P l L o (.bool false):=fun ρ w A _=>by
 obtain⟨j,hj⟩:=Option.isSome_iff_exists.1 he
 have h2:=Lib.run_neq_ptr_same (P:=P) w ad hu hj
 have h3:=A x _ hx
 have h4:=A y _ hy
 simp [execOp,ho,h3,h4,eqGuard,h2]
theorem toUnsafe_ok {src dst t:TypeId}{b i:Nat}{cs:Array Value}{T:TypeId}{fr:Nat×Nat}(ho:o.op=.convert src dst x)(hx:evO l x=some (.pointer (some ⟨b,0,none⟩)))(hs:P.underlying src=some (.pointer t))(hd:P.underlying dst=some .unsafePointer)
  (ht:(match P.info? t with | some j=>!(Nat.beq j.size 0) | none=>false)=true) (hL:L[i]? = some (b,.cells cs T fr)) (hc:0<cs.size):RunV P l L o (.pointer (some ⟨b,0,none⟩)):=fun ρ w A H=>by
 have hb:=H i _ hL
 cases hj:P.info? t with
 | none=>rw [hj]at ht;cases ht
 | some j=>
  rw [hj]at ht
  have hne:j.size≠0:=fun e=>by simp [e]at ht
  have hr:=Lib.run_to_unsafe (P:=P) w ⟨b,0,none⟩ hs hd hj hne (e:=T) (cells:=cs.size) (by simp [World.shape?,hb]) hc
  simp [execOp,ho,A x _ hx,hr]
theorem fromUnsafe_ok {src dst u:TypeId}{b i:Nat}{cs:Array Value}{T:TypeId}{fr:Nat×Nat}(ho:o.op=.convert src dst x)(hx:evO l x=some (.pointer (some ⟨b,0,none⟩)))(hs:P.underlying src=some .unsafePointer)(hd:P.underlying dst=some (.pointer u))
  (hu:(P.info? u).isSome=true) (hL:L[i]? = some (b,.cells cs T fr)) (hl:liesAt P P.depth T (cs.size/P.cellsOf T) 0 u 1=true):RunV P l L o (.pointer (some ⟨b,0,none⟩)):=fun ρ w A H=>by
 have hb:=H i _ hL
 obtain⟨j,hj⟩:=Option.isSome_iff_exists.1 hu
 have hr:=Lib.run_from_unsafe (P:=P) w ⟨b,0,none⟩ hs hd hj (e:=T) (cells:=cs.size) (by simp [World.shape?,hb]) hl
 simp [execOp,ho,A x _ hx,hr]
theorem noEsc_ok {f:FuncId}{fn:Func}{ts:Array TypeId}{v:Value}(ho:o.op=.call ⟨.value (.func f),#[x],ts⟩)(hx:evO l x=some v)(hf:P.funcs[f]? = some fn)(hname:(fn.name == "runtime.NumGoroutine")=false)(hb:fn.body.isNone=true)(hn:Extern.findNext fn=none)
  (he:Extern.find fn=some Extern.AbiNoEscape.same):RunV P l L o v:=fun ρ w A _=>by
 have h1:=A x _ hx
 have h3:ρ (.func f)=.func (.func f) #[] #[]:=A (.func f) _ rfl
 have h4:(callFunc f #[v]).run P w=.ok (.value v) w:=by rw [run_callFunc_extern hf hname hb hn he,Lib.run_noEscape];rfl
 simp [execOp,ho,resolve,h1,h3,Deferred.ofValue,invoke,h4]
theorem sdNil_ok {t:TypeId}{n c:Nat}(ho:o.op=.call ⟨.builtin .unsafeSliceData,#[x],#[t]⟩)(hx:evO l x=some (.slice none n c)):RunV P l L o (.pointer none):=fun ρ w A _=>by
 have h1:=A x _ hx
 have h2:=Lib.run_unsafeSliceData_nil (P:=P) w #[t] o.type n c
 simp [execOp,ho,resolve,invoke,builtin,h1,h2]
theorem sdRow_ok {t:TypeId}{ad:Addr}{n c:Nat}(ho:o.op=.call ⟨.builtin .unsafeSliceData,#[x],#[t]⟩)(hx:evO l x=some (.slice (some ad) n c))(hc:c≠0):RunV P l L o (.pointer (some ad)):=fun ρ w A _=>by
 have h1:=A x _ hx
 have h2:=Lib.run_unsafeSliceData_row (P:=P) w #[t] o.type ad n c hc
 simp [execOp,ho,resolve,invoke,builtin,h1,h2]
theorem usNil_ok {t u:TypeId}{p:Option Addr}(ho:o.op=.call ⟨.builtin .unsafeString,#[x,y],#[t,u]⟩)(hx:evO l x=some (.pointer p))(hy:evO l y=some (.int .i64 (0:Nat))):RunV P l L o (.string (bs [])):=fun ρ w A _=>by
 have h1:=A x _ hx
 have h1':=A y _ hy
 have h2:=Lib.run_unsafeString_none (P:=P) w t u o.type p
 have e:((0:Nat):Int)=0:=rfl
 rw [e]at h1'
 simp only [execOp,ho,resolve,invoke,builtin,h1,h1',h2,Sem.run_bind,Sem.run_pure,Result.andThen_ok,List.map_toArray,List.map_cons,List.map_nil]
 rfl
theorem usRow_ok {t u e:TypeId}{g i:Nat}{cs:Array Value}{X:List Nat}(ho:o.op=.call ⟨.builtin .unsafeString,#[x,y],#[t,u]⟩)(hx:evO l x=some (.pointer (some ⟨g,0,none⟩)))(hy:evO l y=some (.int .i64 (X.length:Nat)))
  (ht:P.underlying t=some (.pointer e)) (hc:P.cellsOf e=1) (hL:L[i]? = some (g,.cells cs e)) (h0:0<X.length) (hX:∀i,X.getD i 0<256) (hn:X.length≤cs.size) (h63:X.length≤9223372036854775807) (hcs:∀j,j<X.length→cs[j]? = some (.int .u8 (X.getD j 0:Nat))) :
  RunU P l L o (.string (bs X)) [(i,.cells cs e (0,X.length))]:=fun ρ w A H=>by
 have h1:=A x _ hx
 have h1':=A y _ hy
 have hb:=H i _ hL
 have hbl:(bs X).data.toList.length=X.length:=by rw [Array.length_toList];exact bs_size X
 have hr:=Lib.run_unsafeString_row (P:=P) w t u o.type e ht hc g cs.size (by simp [World.shape?,hb]) (bs X).data.toList (by intro h;rw [h]at hbl;simp at hbl;omega) (by rw [hbl];exact hn) (by rw [hbl];exact h63) (fun j z hz=>by
  have hj:j<X.length:=by rw [←hbl];exact(List.getElem?_eq_some_iff.1 hz).1
  have e1:(⟨g,0,none⟩:Addr).add j=⟨g,j,none⟩:=by unfold Addr.add;split <;> simp_all
  rw [e1,Lib.cell_of_heap hb,hcs j hj]
  have e2:=byte_bs hX j
  simp only [nl]at e2
  have e3:z.toNat=X.getD j 0:=by
   rw [←e2]
   simp [hz]
  rw [e3])
 rw [hbl]at hr
 refine⟨w.freeze ⟨g,0,none⟩ X.length,.inl ?_,?_⟩
 ·simp only [execOp,ho,resolve,invoke,builtin,h1,h1',hr,Sem.run_bind,Sem.run_pure,Result.andThen_ok,List.map_toArray,List.map_cons,List.map_nil]
 ·have hne:X.length≠0:=by omega
  unfold World.freeze
  rw [if_neg hne]
  refine⟨rfl,rfl,rfl,by simp,fun k hk hu=>?_,fun o h=>(nomatch h),fun _=>rfl,fun u hu z hz=>?_⟩
  ·simp only [Array.getElem?_modify]
   rw [if_neg]
   intro e
   exact hu _ (List.mem_singleton.2 rfl) _ hL e
  ·obtain rfl:=List.mem_singleton.1 hu
   simp only at hz
   obtain rfl:=Option.some.inj (hL.symm.trans hz)
   simp [Array.getElem?_modify,hb]
end
end Go.Proofs.YtdokjecjiifciaaGreatDoor
namespace Go.Proofs.YtdokjecjiifciaaGreatDoor
open Go.RowKit
set_option maxRecDepth 100000
theorem en_copychk:Enters Tryz.prog 150:=fun args w=>by simp [go_sem]
theorem en_bwrite:Enters Tryz.prog 119:=fun args w=>by simp [go_sem]
theorem en_bstring:Enters Tryz.prog 121:=fun args w=>by simp [go_sem]
theorem en_lowest:Enters Tryz.prog 93:=fun args w=>by simp [go_sem]
theorem en_pack:Enters Tryz.prog 132:=fun args w=>by simp [go_sem]
theorem en_key:Enters Tryz.prog 96:=fun args w=>by simp [go_sem]
theorem en_did:Enters Tryz.prog 73:=fun args w=>by simp [go_sem]
theorem en_round:Enters Tryz.prog 74:=fun args w=>by simp [go_sem]
theorem en_nonce:Enters Tryz.prog 50:=fun args w=>by simp [go_sem]
theorem copychk_fresh (rv:Value)(b j:Nat)(L:Blks)(hj:L[j]? = some (b,.cells #[.pointer none,rv] 214))(w0:World)(H:Has w0 L) :
  Calls Tryz.prog 150 #[pT b] w0 fun e w'=>e=.returned (.tuple #[])∧Post w0 w' L ⟨fun _=>.tuple #[],none,[(j,.cells #[pT b,rv] 214)]⟩ 0:=by
 have MM:=MemS.start1 (H j _ hj)
 refine eF Tryz.func150 rfl Tryz.ntmps150 (by simp) fun ac (FF:Fr 20 ac [(0,pT b)])=>?_
 refine wp_seq (rg_c FF MM [(3,l_ 0 (.pointer none)),(0,f_ (.bool true))] 1 [6] [] (⟨rfl,rfl,(ptrNil_ok (t:=212) (t':=212) (x:=.tmp 5) (y:=(.const (.pointer none))) (by kernel_rfl) rfl rfl Tryz.underlying212),fun _ _ FF1 MM1=>tN ?_⟩))
 refine wp_cond_true (FF1.ev 0 rfl) ?_
 refine rg_c FF1 MM1 [(2,f_ (pT b)),(0,f_ (pT b)),(0,f_ (pT b)),(2,s_ 0 (oC #[pT b,rv] 214))] 1 [] [] (⟨(toUnsafe_ok (x:=.tmp 8) (i:=0) (by kernel_rfl) rfl Tryz.underlying212 Tryz.underlying287 (by kernel_rfl) rfl (Nat.zero_lt_succ 1)),(noEsc_ok (f:=179) (ts:=#[287]) (x:=.tmp 9) (by kernel_rfl) rfl Tryz.func179 (by kernel_rfl) (by kernel_rfl) (by kernel_rfl) (by kernel_rfl)),(fromUnsafe_ok (x:=.tmp 10) (i:=0) (by kernel_rfl) rfl Tryz.underlying287 Tryz.underlying212 (by kernel_rfl) rfl (by kernel_rfl)),rfl,(by simp),(.inl rfl),rfl,fun _ _ FF2 MM2=>?_⟩)
 exact(end_none FF2 Tryz.results150 ⟨rfl,MM2.post1 0 rfl hj⟩)
theorem copychk_used (rv:Value)(b j:Nat)(L:Blks)(hj:L[j]? = some (b,.cells #[pT b,rv] 214))(w0:World)(H:Has w0 L) :
  Calls Tryz.prog 150 #[pT b] w0 fun e w'=>e=.returned (.tuple #[])∧Post w0 w' L ⟨fun _=>.tuple #[],none,[(j,.cells #[pT b,rv] 214)]⟩ 0:=by
 have MM:=MemS.start1 (H j _ hj)
 refine eF Tryz.func150 rfl Tryz.ntmps150 (by simp) fun ac (FF:Fr 20 ac [(0,pT b)])=>?_
 refine wp_seq (rg_c FF MM [(3,l_ 0 (pT b)),(0,f_ (.bool false))] 1 [6] [] (⟨rfl,rfl,(ptrSome_ok (t:=212) (t':=212) (x:=.tmp 5) (y:=(.const (.pointer none))) (by kernel_rfl) rfl rfl Tryz.underlying212),fun _ _ FF1 MM1=>tN ?_⟩))
 refine wp_cond_false (FF1.ev 0 rfl) ?_
 refine wp_seq (rg_c FF1 MM1 [(3,l_ 0 (pT b)),(1,f_ (.bool false))] 1 [19] [] (⟨rfl,rfl,(ptrSame_ok (t:=212) (t':=212) (x:=.tmp 17) (y:=.tmp 18) (by kernel_rfl) rfl rfl Tryz.underlying212 (by kernel_rfl)),fun _ _ FF2 MM2=>tN ?_⟩))
 refine wp_cond_false (FF2.ev 0 rfl) ?_
 refine wp_skip ?_
 exact(end_none FF2 Tryz.results150 ⟨rfl,MM2.post1 0 rfl hj⟩)
theorem copychk_any (p rv:Value)(b j:Nat)(hp:p=.pointer none∨p=pT b)(L:Blks)(hj:L[j]? = some (b,.cells #[p,rv] 214))(w0:World)(H:Has w0 L) :
  Calls Tryz.prog 150 #[pT b] w0 fun e w'=>e=.returned (.tuple #[])∧Post w0 w' L ⟨fun _=>.tuple #[],none,[(j,.cells #[pT b,rv] 214)]⟩ 0:=by
 rcases hp with rfl | rfl
 ·exact copychk_fresh rv b j L hj w0 H
 ·exact copychk_used rv b j L hj w0 H
theorem bwrite_any {S:Nat→Prop}{w0:World}{L:Blks}{R:List Row}{p:Value}{q:Option Addr}{b n c:Nat}{X:List Value}{Y:List Nat}(hp:p=.pointer none∨p=pT b)(hY:∀i,Y.getD i 0<256)(hb:n+Y.length≤140737488355328)(w:World)
  (M:MemS S w0 w ((b,.cells #[p,.slice q n c] 214)::L) ((.slice q n c,5,1,n,X)::R)) :
  Calls Tryz.prog 119 #[pT b,sB Y] w fun e w'=>e=.returned (.tuple #[iN Y.length,.nilIface])∧
   ∃q' c',MemS S w0 w' ((b,.cells #[pT b,.slice q' (n+Y.length) c'] 214)::L) ((.slice q' (n+Y.length) c',5,1,n+Y.length,X++bcells Y)::R):=by
 refine eF Tryz.func119 rfl Tryz.ntmps119 (by simp) fun ac (FF:Fr 19 ac [(0,pT b),(1,sB Y)])=>?_
 refine wp_seq (rg_c FF M [] 6 [] [] (fun _ _ FF1 MM1=>tN ?_))
 refine wp_seq (rg_c FF1 MM1 [(1,c_ (.tuple #[]) [(0,oC #[pT b,.slice q n c] 214)])] 6 [] [] (⟨⟨en_copychk,fun w H=>copychk_any _ _ _ 0 hp _ rfl w H⟩,fun _ _ FF2 MM2=>tN ?_⟩))
 refine wp_seq (wp_region_list ?_)
 refine rp_c 6 FF2 MM2 [(4,l_ 0 (.slice q n c))] 9 [12,13] [] (⟨rfl,rfl,fun _ _ FF3 MM3=>?_⟩)
 refine st_appStr [8,5,4,0,1,14] FF3 MM3 (d:=14) (s:=12) (Y:=Y) rfl rfl rfl hY Tryz.underlying77 Tryz.underlying9 (by kernel_rfl) hb rfl rfl (by decide) fun ac6 wd6 rq4 rc5 FF6 MM6=>?_
 refine rp_c 3 FF6 MM6 [(2,s_ 0 (oC #[pT b,.slice rq4 (n+Y.length) rc5] 214))] 6 [] [] (⟨rfl,(by simp),(.inl rfl),rfl,fun _ _ FF7 MM7=>?_⟩)
 refine wpl_nil (tN ?_)
 refine wp_seq (rg_c FF7 MM7 [(1,t_ (iN Y.length))] 6 [] [] (⟨(vI (bs_size _)),fun _ _ FF8 MM8=>tN ?_⟩))
 refine wp_ret ?_
 repeat first | refine tR ?_ | refine iR ?_
 exact(ret_tup2 FF8 1 0 Tryz.results119 rfl rfl ⟨rfl,⟨_,_,MM8⟩⟩)
theorem bstring_nil {S:Nat→Prop}{w0:World}{L:Blks}{R:List Row}{p:Value}{b:Nat}(w:World)(M:MemS S w0 w ((b,.cells #[p,.slice none 0 0] 214)::L) R) :
  Calls Tryz.prog 121 #[pT b] w fun e w'=>e=.returned (sB [])∧MemS S w0 w' ((b,.cells #[p,.slice none 0 0] 214)::L) R:=by
 refine eF Tryz.func121 rfl Tryz.ntmps121 (by simp) fun ac (FF:Fr 14 ac [(0,pT b)])=>?_
 refine wp_seq (rg_c FF M [(0,t_ (sB []))] 3 [] [] (⟨(by kernel_rfl),fun _ _ FF1 MM1=>tN ?_⟩))
 refine wp_seq (rg_dc 12 FF1 MM1 [(3,l_ 0 (.slice none 0 0)),(0,f_ (.pointer none)),(3,l_ 0 (.slice none 0 0)),(1,f_ (sB []))] [] 0 [2] [] (⟨rfl,rfl,(sdNil_ok (t:=77) (x:=.tmp 6) (by kernel_rfl) rfl),rfl,rfl,(usNil_ok (t:=232) (u:=3) (x:=.tmp 7) (y:=.tmp 12) (by kernel_rfl) rfl rfl),fun _ _ FF2 MM2=>tN ?_⟩))
 refine wp_ret ?_
 repeat first | refine tR ?_ | refine iR ?_
 exact(ret_fr FF2 0 Tryz.results121 rfl ⟨rfl,MM2⟩)
theorem bstring_row {S:Nat→Prop}{w0:World}{L:Blks}{R:List Row}{p:Value}{b:Nat}{g c:Nat}{cur:Array Value}{X:List Nat}(h0:0<X.length)(hX:∀i,X.getD i 0<256)(hn:X.length≤cur.size)(h63:X.length≤9223372036854775807)(hc:c≠0)(hcs:∀j,j<X.length→cur[j]? = some (iB (X.getD j 0)))(w:World)(M:MemS S w0 w ((g,.cells cur 5)::(b,.cells #[p,.slice (some ⟨g,0,none⟩) X.length c] 214)::L) R) :
  Calls Tryz.prog 121 #[pT b] w fun e w'=>e=.returned (sB X)∧MemS S w0 w' ((b,.cells #[p,.slice (some ⟨g,0,none⟩) X.length c] 214)::L) R:=by
 refine eF Tryz.func121 rfl Tryz.ntmps121 (by simp) fun ac (FF:Fr 14 ac [(0,pT b)])=>?_
 refine wp_seq (rg_c FF M [(0,t_ (sB []))] 3 [] [] (⟨(by kernel_rfl),fun _ _ FF1 MM1=>tN ?_⟩))
 refine wp_seq (rg_dc 10 FF1 MM1 [(3,l_ 1 (.slice (some ⟨g,0,none⟩) X.length c)),(0,f_ (pT g)),(3,l_ 1 (.slice (some ⟨g,0,none⟩) X.length c))] [(0,r_ (sB X) [(0,.cells cur 5 (0,X.length))])] 0 [2] [] (⟨rfl,rfl,(sdRow_ok (t:=77) (x:=.tmp 6) (by kernel_rfl) rfl hc),rfl,rfl,(usRow_ok (t:=232) (u:=3) (e:=5) (i:=0) (x:=.tmp 7) (y:=.tmp 12) (by kernel_rfl) rfl rfl Tryz.underlying232 (by kernel_rfl) rfl h0 hX hn h63 hcs),fun _ _ FF2 MM2=>tN ?_⟩))
 refine wp_ret ?_
 repeat first | refine tR ?_ | refine iR ?_
 exact(ret_fr FF2 0 Tryz.results121 rfl ⟨rfl,MM2.dropAt 0⟩)
theorem bstring_any {S:Nat→Prop}{w0:World}{L:Blks}{R:List Row}{p:Value}{q:Option Addr}{b n c:Nat}{X:List Nat}(hX:∀i,X.getD i 0<256)(hq:0<n∨q=none)(w:World)
  (M:MemS S w0 w ((b,.cells #[p,.slice q n c] 214)::L) ((.slice q n c,5,1,n,bcells X)::R)) :
  Calls Tryz.prog 121 #[pT b] w fun e w'=>e=.returned (sB X)∧MemS S w0 w' ((b,.cells #[p,.slice q n c] 214)::L) R:=by
 have hown:w.ownsRow w0.heap.size 5 1 (.slice q n c) n (bcells X):=M.rows _ (List.mem_cons_self ..)
 have hl:X.length=n:=by have:=hown.1;simpa [bcells]using this
 subst hl
 rcases hown.2 with⟨h1,h2⟩ | ⟨g,cap,cur,h1,_⟩
 ·simp only [Value.slice.injEq]at h1
  obtain⟨rfl,_,rfl⟩:=h1
  obtain rfl:X=[]:=List.eq_nil_of_length_eq_zero h2
  exact bstring_nil w M.dropRow
 ·simp only [Value.slice.injEq]at h1
  obtain⟨rfl,_,rfl⟩:=h1
  have h0:0<X.length:=hq.resolve_right (by simp)
  obtain⟨cur,M',_,h4,h5,h6,h7,_⟩:=M.freeze
  rw [Nat.mul_one]at h6 h7
  refine bstring_row h0 hX (by omega) (by simp only [maxLen]at h5;omega) (by omega) (fun j hj=>?_) w M'
  have e1:=congrArg (fun l=>l[j]?) h7
  simp only [List.getElem?_take,if_pos hj]at e1
  rw [show cur[j]? = cur.toList[j]? by simp,e1]
  simp [bcells,hj]
theorem lowest_any (n k:Nat)(hn:n<18446744073709551616)(hk:k≤8)(w0:World) :
  Calls Tryz.prog 93 #[iW n,iN k] w0 fun e w'=>e=.returned (sB (leN k n))∧Below w0.heap.size w0 w':=by
 refine eF Tryz.func93 rfl Tryz.ntmps93 (by simp) fun ac (FF:Fr 25 ac [(0,iW n),(1,iN k)])=>?_
 have MM:=MemS.start w0
 refine wp_seq (rg_c FF MM [(0,t_ (sB []))] 5 [] [] (⟨(by kernel_rfl),fun _ _ FF1 MM1=>tN ?_⟩))
 refine wp_seq (rg_c FF1 MM1 [(1,n_ (.slice none k k) (.cells (cn .u8 (List.replicate k 0)) 5))] 6 [] [1] (⟨(make_ok (t:=77) (e:=5) (p:=(.tmp 7)) (q:=(.tmp 7)) (by kernel_rfl) rfl rfl Tryz.underlying77 (by kernel_rfl) (by have:=hk;omega)),fun bl=>fun _ _ FF2 MM2=>tN ?_⟩))
 have MMr4:MemS _ _ _ [(bl,.cells (cn .u8 (genL k (leF n) 0)) 5)] _:=MM2.eqA 0 rfl (by rw [←genL_zero k (leF n)] <;> rfl)
 refine wp_seq ?_
 refine wp_seq (rg_c FF2 MMr4 [] 12 [] [9] (fun _ _ FF3 MM3=>tN ?_))
 refine wp_for (fun a' w'=>∃i:Nat,i≤k∧Fr 25 a' [(11,iN i),(10,iN k),(5,.slice (some ⟨bl,0,none⟩) k k),(4,sB []),(0,iW n)]∧MemS (fun k=>k<w0.heap.size) w0 w' [(bl,.cells (cn .u8 (genL k (leF n) i)) 5)] []) (fun a' _=>(k-cnt 11 a').toNat) ⟨0,Nat.zero_le _,FF3.pick [0,1,2,3,4],MM3⟩ ?_
 rintro ac4 wd4 ⟨i,hi,FF4,MM4⟩
 have hc:=cnt_of (FF4.get 0 rfl)
 refine rg_c FF4 MM4 [] 13 [] [] (fun _ _ FF5 MM5=>?_)
 by_cases hlt:i<k
 ·skip
  refine tN (.inl ⟨(FF5.ev 0 rfl).trans (dec_t hlt),?_⟩)
  refine wp_seq (rg_c FF5 MM5 [] 12 [] [] (fun _ _ FF6 MM6=>tN ?_))
  refine rg_c FF6 MM6 [(6,t_ (iB (leF n i))),(0,w_ 1),(0,s_ 0 (.cells (cn .u8 (genL k (leF n) (i+1))) 5))] 12 [] [] (⟨by omega,(by show _≤64;have:=hn;omega),rfl,by omega,rfl,(by rw [cZ,(genL_len _ _ _)];have:=hlt;omega),(.inl rfl),((cn_set _ _ _ _).trans (congrArg _ (genL_step _ _ i hlt rfl))),fun _ _ FF7 MM7=>?_⟩)
  refine inb_n (tN ?_)
  refine rg_c FF7 MM7 [] 12 [] [] (⟨by omega,fun _ _ FF8 MM8=>?_⟩)
  have hd:=cnt_of (FF8.get 0 rfl)
  refine tN ⟨⟨i+1,by omega,FF8.pick [0,2,3,4,5],MM8⟩,?_⟩
  rw [hc,hd];omega
 ·skip
  refine tN (.inr ⟨(FF5.ev 0 rfl).trans (dec_f hlt),?_⟩)
  obtain rfl:i=k:=by omega
  refine tN ?_
  refine wp_seq (rg_c FF5 MM5 [(1,l_ 0 (sB (genL i (leF n) i)))] 12 [] [] (⟨rfl,(str_all (genL_len _ _ _) (genL_lt (by decide) (leF_lt n) i)),fun _ _ FF9 MM9=>tN ?_⟩))
  refine wp_ret ?_
  repeat first | refine tR ?_ | refine iR ?_
  exact(ret_fr FF9 0 Tryz.results93 rfl ⟨rfl,MM9.below⟩)
theorem pack_some (Ps:List (List Nat))(hP:∀X∈Ps,∀i,X.getD i 0<256)(hl:(packN Ps).length≤140737488355328)(pb off cap T9:Nat)(fr:Nat×Nat)(cs:Array Value)(hp0:∀j,j<Ps.length→cs[off+j]? = some (sB (Ps.getD j [])))(w0:World)(hb:w0.heap[pb]? = some (.cells cs T9 fr)) :
  Calls Tryz.prog 132 #[.slice (some ⟨pb,off,none⟩) Ps.length cap] w0 fun e w'=>e=.returned (sB (packN Ps))∧Below w0.heap.size w0 w':=by
 have MM:=MemS.start1 hb
 refine eF Tryz.func132 rfl Tryz.ntmps132 (by simp) fun ac (FF:Fr 21 ac [(0,.slice (some ⟨pb,off,none⟩) Ps.length cap)])=>?_
 refine wp_seq (rg_c FF MM [(0,t_ (sB []))] 3 [] [] (⟨(by kernel_rfl),fun _ _ FF1 MM1=>tN ?_⟩))
 refine wp_seq (rg_c FF1 MM1 [] 4 [] [] (fun bd=>fun _ wd2 FF2 MM2=>tN ?_))
 refine wp_seq ?_
 have MMn:=MM2.rowNil 5 1
 have MMo:MemS (fun k=>k<w0.heap.size∧k≠pb) w0 wd2 [(bd,oC #[.pointer none,.slice none (packN (Ps.take 0)).length 0] 214),(pb,.cells cs T9 fr)] [(.slice none (packN (Ps.take 0)).length 0,5,1,(packN (Ps.take 0)).length,(bcells (packN (Ps.take 0))))]:=MMn
 refine wp_seq (rg_c FF2 MMo [] 9 [] [0] (fun _ _ FF3 MM3=>tN ?_))
 refine wp_for (fun a' w'=>∃i:Nat,∃p:Value,∃q:Option Addr,∃c:Nat,i≤Ps.length∧(p=.pointer none∨p=pT bd)∧(0<i∨q=none)∧Fr 21 a' [(8,iN i),(7,iN Ps.length),(6,.slice (some ⟨pb,off,none⟩) Ps.length cap),(3,pT bd),(2,sB [])]∧MemS (fun k=>k<w0.heap.size∧k≠pb) w0 w' [(bd,oC #[p,.slice q (packN (Ps.take i)).length c] 214),(pb,.cells cs T9 fr)] [(.slice q (packN (Ps.take i)).length c,5,1,(packN (Ps.take i)).length,(bcells (packN (Ps.take i))))]) (fun a' _=>(Ps.length-cnt 8 a').toNat) ⟨0,.pointer none,none,0,Nat.zero_le _,.inl rfl,.inr rfl,FF3.pick [0,1,2,3,4],MM3⟩ ?_
 rintro ac4 wd4 ⟨i,p,q,c,hi,hp,hq,FF4,MM4⟩
 have hc:=cnt_of (FF4.get 0 rfl)
 refine rg_c FF4 MM4 [] 9 [9] [] (fun _ _ FF5 MM5=>?_)
 by_cases hlt:i<Ps.length
 ·skip
  refine tN (.inl ⟨(FF5.ev 0 rfl).trans (dec_t hlt),?_⟩)
  have hXl:=getD_lt hP hlt
  have hpl:=packN_len Ps
  have hle:=packN_le Ps (i+1)
  rw [packN_take Ps i hlt]at hle
  simp only [List.length_append,leN_len]at hle
  refine wp_seq (rg_c FF5 MM5 [(1,l_ 1 (sB (Ps.getD i [])))] 9 [] [] (⟨by omega,rfl,(hp0 i hlt),fun _ _ FF6 MM6=>tN ?_⟩))
  refine wp_seq (wp_region_list ?_)
  refine rp_c 4 FF6 MM6 [(1,t_ (iN ((Ps.getD i []).length))),(0,w_ 1),(0,t_ (sB (leN 4 ((Ps.getD i []).length))))] 9 [15] [] (⟨(vI (bs_size _)),by omega,(cP en_lowest (lowest_any ((Ps.getD i []).length) 4 (by omega) (by decide)) _),fun _ _ FF7 MM7=>?_⟩)
  refine st_callM [5,8,7,6,3,2,16] FF7 (d:=16) en_bwrite rfl rfl (bwrite_any hp (leN_lt _ _) (by rw [leN_len];omega) _ MM7) rfl (by kernel_rfl) (by decide) fun ac8 wd8 FF8 hr9=>?_
  obtain⟨rq10,rc11,MM8⟩:=hr9
  have MM8:MemS (fun k=>k<w0.heap.size∧k≠pb) w0 wd8 [(bd,oC #[pT bd,.slice rq10 ((packN (Ps.take i)).length+(leN 4 (Ps.getD i []).length).length) rc11] 214),(pb,.cells cs T9 fr)] [(.slice rq10 ((packN (Ps.take i)).length+(leN 4 (Ps.getD i []).length).length) rc11,5,1,((packN (Ps.take i)).length+(leN 4 (Ps.getD i []).length).length),((bcells (packN (Ps.take i)))++bcells (leN 4 (Ps.getD i []).length)))]:=MM8
  refine wpl_nil (tN ?_)
  refine wp_region_list ?_
  refine rp_c 1 FF8 MM8 [] 9 [17] [] (fun _ _ FF12 MM12=>?_)
  refine st_callM [5,8,7,6,3,2,18] FF12 (d:=18) en_bwrite rfl rfl (bwrite_any (.inr rfl) hXl (by rw [leN_len];omega) _ MM12) rfl (by kernel_rfl) (by decide) fun ac13 wd13 FF13 hr14=>?_
  obtain⟨rq15,rc16,MM13⟩:=hr14
  have MM13:MemS (fun k=>k<w0.heap.size∧k≠pb) w0 wd13 [(bd,oC #[pT bd,.slice rq15 (((packN (Ps.take i)).length+(leN 4 (Ps.getD i []).length).length)+(Ps.getD i []).length) rc16] 214),(pb,.cells cs T9 fr)] [(.slice rq15 (((packN (Ps.take i)).length+(leN 4 (Ps.getD i []).length).length)+(Ps.getD i []).length) rc16,5,1,(((packN (Ps.take i)).length+(leN 4 (Ps.getD i []).length).length)+(Ps.getD i []).length),(((bcells (packN (Ps.take i)))++bcells (leN 4 (Ps.getD i []).length))++bcells (Ps.getD i [])))]:=MM13
  refine wpl_nil ?_
  refine inb_n (tN ?_)
  refine rg_c FF13 MM13 [] 9 [] [] (⟨by omega,fun _ _ FF17 MM17=>?_⟩)
  have hst:=packN_take Ps i hlt
  have e1:(packN (Ps.take i)).length+(leN 4 (Ps.getD i []).length).length+(Ps.getD i []).length=(packN (Ps.take (i+1))).length:=by rw [hst];simp only [List.length_append]
  have e2:bcells (packN (Ps.take i))++bcells (leN 4 (Ps.getD i []).length)++bcells (Ps.getD i [])=bcells (packN (Ps.take (i+1))):=by rw [hst,bcells_app,bcells_app]
  rw [e1,e2]at MM17
  have hd:=cnt_of (FF17.get 0 rfl)
  refine tN ⟨⟨i+1,pT bd,rq15,rc16,by omega,.inr rfl,.inl (Nat.succ_pos _),FF17.pick [0,2,3,4,5],MM17⟩,?_⟩
  rw [hc,hd];omega
 ·skip
  refine tN (.inr ⟨(FF5.ev 0 rfl).trans (dec_f hlt),?_⟩)
  have hie:i=Ps.length:=by omega
  subst hie
  rw [List.take_length]at MM5
  refine tN ?_
  refine wp_seq (wp_region_list ?_)
  refine st_callM [8,7,6,3,2,20] FF5 (d:=20) en_bstring rfl rfl (bstring_any (packN_lt hP) (hq.imp_left fun h=>by rw [packN_len];omega) _ MM5) rfl (by kernel_rfl) (by decide) fun ac18 wd18 FF18 hr19=>?_
  have MM18:MemS (fun k=>k<w0.heap.size∧k≠pb) w0 wd18 [(bd,oC #[p,.slice q (packN Ps).length c] 214),(pb,.cells cs T9 fr)] []:=hr19
  refine rp_c 1 FF18 MM18 [] 9 [] [] (fun _ _ FF20 MM20=>?_)
  refine wpl_nil (tN ?_)
  refine wp_ret ?_
  repeat first | refine tR ?_ | refine iR ?_
  exact(ret_fr FF20 0 Tryz.results132 rfl ⟨rfl,MM20.below1 1 rfl hb⟩)
theorem pack_none (p:Option Addr)(cap:Nat)(w0:World) :
  Calls Tryz.prog 132 #[.slice p 0 cap] w0 fun e w'=>e=.returned (sB [])∧Below w0.heap.size w0 w':=by
 refine eF Tryz.func132 rfl Tryz.ntmps132 (by simp) fun ac (FF:Fr 21 ac [(0,.slice p 0 cap)])=>?_
 have MM:=MemS.start w0
 refine wp_seq (rg_c FF MM [(0,t_ (sB []))] 3 [] [] (⟨(by kernel_rfl),fun _ _ FF1 MM1=>tN ?_⟩))
 refine wp_seq (rg_c FF1 MM1 [] 4 [] [] (fun bd=>fun _ _ FF2 MM2=>tN ?_))
 refine wp_seq ?_
 have MMn:=MM2.rowNil 5 1
 have MMn:MemS _ _ _ _ _:=MMn
 refine wp_seq (rg_c FF2 MMn [] 9 [] [0] (fun _ _ FF3 MM3=>tN ?_))
 refine wp_for (fun a' w'=>Fr 21 a' [(8,iN 0),(7,iN 0),(6,.slice p 0 cap),(3,pT bd),(2,sB [])]∧MemS (fun k=>k<w0.heap.size) w0 w' [(bd,oC #[.pointer none,.slice none 0 0] 214)] [(.slice none 0 0,5,1,0,(bcells []))]) (fun _ _=>0) ⟨FF3.pick [0,1,2,3,4],MM3⟩ ?_
 rintro ac4 wd4 ⟨FF4,MM4⟩
 refine rg_c FF4 MM4 [(0,w_ 3)] 9 [9] [] (⟨by decide,fun _ _ FF5 MM5=>?_⟩)
 refine tN (.inr ⟨FF5.ev 0 rfl,?_⟩)
 refine tN ?_
 refine wp_seq (wp_region_list ?_)
 refine st_callM [8,7,6,3,2,20] FF5 (d:=20) en_bstring rfl rfl (bstring_any nil_lt (.inr rfl) _ MM5) rfl (by kernel_rfl) (by decide) fun ac6 wd6 FF6 hr7=>?_
 have MM6:MemS (fun k=>k<w0.heap.size) w0 wd6 [(bd,oC #[.pointer none,.slice none 0 0] 214)] []:=hr7
 refine rp_c 1 FF6 MM6 [] 9 [] [] (fun _ _ FF8 MM8=>?_)
 refine wpl_nil (tN ?_)
 refine wp_ret ?_
 repeat first | refine tR ?_ | refine iR ?_
 exact(ret_fr FF8 0 Tryz.results132 rfl ⟨rfl,MM8.below⟩)
theorem pack_any (Ps:List (List Nat))(hP:∀X∈Ps,∀i,X.getD i 0<256)(hl:(packN Ps).length≤140737488355328)(p:Option Addr)(cap:Nat)(w0:World)(h:StrsIn w0 p Ps) :
  Calls Tryz.prog 132 #[.slice p Ps.length cap] w0 fun e w'=>e=.returned (sB (packN Ps))∧Below w0.heap.size w0 w':=by
 rcases h with rfl | ⟨b,off,cs,T,fr,rfl,hb,hc⟩
 ·exact pack_none p cap w0
 ·exact pack_some Ps hP hl b off cap T fr cs hc w0 hb
theorem strsO_of {w:World}{p:Option Addr}{Ps:List (List Nat)}(h:StrsIn w p Ps):∃O:Blks,Distinct O∧Has w O∧StrsO O p Ps:=by
 rcases h with rfl | ⟨b,off,cs,T,fr,rfl,hb,hc⟩
 ·exact⟨[],trivial,fun i x h=>by simp at h,.inl rfl⟩
 ·refine⟨[(b,.cells cs T fr)],⟨fun y hy=>(nomatch hy),trivial⟩,fun i x h=>?_,.inr ⟨b,off,cs,T,fr,rfl,by simp,hc⟩⟩
  match i,h with
  | 0,h=>cases h;exact hb
  | i+1,h=>simp at h
theorem add_blk {w:World}{O:Blks}(hD:Distinct O)(H:Has w O){b:Nat}{ob:Obj}(hb:w.heap[b]? = some ob):∃O':Blks,Distinct O'∧Has w O'∧(∀x∈O,x∈O')∧(b,ob)∈O':=by
 by_cases h:∃x∈O,x.1=b
 ·obtain⟨x,hx,rfl⟩:=h
  have:=Has.mem H hx
  rw [hb]at this
  exact⟨O,hD,H,fun _ h=>h,by rw [Option.some.inj this];exact hx⟩
 ·refine⟨(b,ob)::O,⟨fun y hy e=>h ⟨y,hy,e⟩,hD⟩,fun i x hx=>?_,fun x hx=>List.mem_cons_of_mem _ hx,by simp⟩
  match i,hx with
  | 0,hx=>cases hx;exact hb
  | i+1,hx=>exact H i x (by simpa using hx)
theorem add_strs {w:World}{O:Blks}(hD:Distinct O)(H:Has w O){p:Option Addr}{Ps:List (List Nat)}(h:StrsIn w p Ps):∃O':Blks,Distinct O'∧Has w O'∧(∀x∈O,x∈O')∧StrsO O' p Ps:=by
 rcases h with rfl | ⟨b,off,cs,T,fr,rfl,hb,hc⟩
 ·exact⟨O,hD,H,fun _ h=>h,.inl rfl⟩
 ·obtain⟨O',h1,h2,h3,h4⟩:=add_blk hD H hb
  exact⟨O',h1,h2,h3,.inr ⟨b,off,cs,T,fr,rfl,h4,hc⟩⟩
theorem tabO_of {w:World}{ob:Obj}(hg:w.heap[0]? = some ob){p:Option Addr}{Ps:List (List Nat)}(h:StrsIn w p Ps):∃O:Blks,Distinct O∧Has w O∧(0,ob)∈O∧StrsO O p Ps:=by
 obtain⟨O,h1,h2,_,h4⟩:=add_blk (O:=[]) trivial (fun i x h=>by simp at h) hg
 obtain⟨O',h1',h2',h3',h4'⟩:=add_strs h1 h2 h
 exact⟨O',h1',h2',h3' _ h4,h4'⟩
def idN (X:List Nat)(Ps:List (List Nat)):List Nat:=(shaN (packN [X]++packN Ps)).take 16
theorem idN_len (X:List Nat)(Ps:List (List Nat)):(idN X Ps).length=16:=by rw [idN,List.length_take,(shaN_bytes _).len];rfl
theorem idN_lt (X:List Nat)(Ps:List (List Nat))(i:Nat):(idN X Ps).getD i 0<256:=take_lt (shaN_bytes _).lt i
theorem key_O (O:Blks)(hD:Distinct O)(Tg:TypeId)(fg:Nat×Nat)(hK:(0,Obj.cells (cn .u32 kTab) Tg fg)∈O)(X:List Nat)(hX:∀i,X.getD i 0<256)(Ps:List (List Nat))(hP:∀X∈Ps,∀i,X.getD i 0<256)(hl:X.length+(packN Ps).length<100000000)(p:Option Addr)(cap:Nat)(hO:StrsO O p Ps)(w0:World)(H:Has w0 O) :
  Calls Tryz.prog 96 #[sB X,.slice p Ps.length cap] w0 fun e w'=>e=.returned (.agg (cn .u8 (shaN (packN [X]++packN Ps))))∧Below w0.heap.size w0 w':=by
 refine eF Tryz.func96 rfl Tryz.ntmps96 (by simp) fun ac (FF:Fr 12 ac [(0,sB X),(1,.slice p Ps.length cap)])=>?_
 have MM:MemS (fun k=>k<w0.heap.size∧∀x∈O,x.1≠k) w0 w0 O []:=MemS.startN H hD
 have hlX:(packN [X]).length=4+X.length:=by simp [packN_len]
 refine wp_seq (rg_c FF MM [(0,s_ 0 (.cells (cn .u8 (List.replicate 32 0)) 52))] 5 [] [] (⟨(by kernel_rfl),fun bo=>fun _ _ FF1 MM1=>tN ?_⟩))
 refine wp_seq (rg_c FF1 MM1 [(1,s_ 0 (oC #[sB X] 9)),(0,u_ 1 (sB (packN [X]))),(1,u_ 1 (sB (packN Ps))),(0,s_ 0 (oC #[sB (packN [X]),sB (packN Ps)] 9)),(0,u_ 1 (.agg (cn .u8 (shaN ((packN [X])++(packN Ps)))))),(0,b_ 2)] 0 [4] [] (⟨(by kernel_rfl),fun ba=>⟨⟨en_pack,fun w Hw=>pack_any [X] (lt1 hX) (by rw [hlX];omega) (some ⟨ba,0,none⟩) 1 w (.inr ⟨ba,0,_,_,_,rfl,Hw 0 _ rfl,(at1s X)⟩)⟩,⟨en_pack,fun w Hw=>pack_any Ps hP (by omega) p cap w (hO.at (Has.tl (Has.tl Hw)))⟩,(by kernel_rfl),fun bb=>⟨⟨en_ssum,fun w Hw=>by have h0:=ssum_any Tg fg [packN [X],packN Ps] (lt2 (packN_lt (lt1 hX)) (packN_lt hP)) (by simp) _ 0 2 _ _ _ (at2s (packN [X]) (packN Ps)) (by simp only [flat2,List.length_append,hlX];omega) w (Has.mem (Has.tl (Has.tl (Has.tl Hw))) hK) (Hw 0 _ rfl);rw [flat2]at h0;exact h0⟩,rfl,((cZ _ _).trans (List.length_replicate ..)),((cZ _ _).trans (shaN_bytes _).len),(cn_one _ _),rfl,fun _ _ FF2 MM2=>tN ?_⟩⟩⟩))
 refine wp_ret ?_
 repeat first | refine tR ?_ | refine iR ?_
 exact(retc FF2 MM2 (k:=32) (i:=2) (j:=0) Tryz.results96 rfl rfl Tryz.underlying52 rfl (by kernel_rfl) ((cZ _ _).trans (shaN_bytes _).len) ⟨rfl,MM2.belowN H (fun x hx=>List.mem_cons_of_mem _ (List.mem_cons_of_mem _ (List.mem_cons_of_mem _ (hx))))⟩)
theorem key_any (Tg:TypeId)(fg:Nat×Nat)(X:List Nat)(hX:∀i,X.getD i 0<256)(Ps:List (List Nat))(hP:∀X∈Ps,∀i,X.getD i 0<256)(hl:X.length+(packN Ps).length<100000000)(p:Option Addr)(cap:Nat)(w0:World)(h:StrsIn w0 p Ps)(hg:w0.heap[0]? = some (.cells (cn .u32 kTab) Tg fg)) :
  Calls Tryz.prog 96 #[sB X,.slice p Ps.length cap] w0 fun e w'=>e=.returned (.agg (cn .u8 (shaN (packN [X]++packN Ps))))∧Below w0.heap.size w0 w':=by
 obtain⟨O,hD,H,hK,hO⟩:=tabO_of hg h
 exact key_O O hD Tg fg hK X hX Ps hP hl p cap hO w0 H
theorem did_O (O:Blks)(hD:Distinct O)(Tg:TypeId)(fg:Nat×Nat)(hK:(0,Obj.cells (cn .u32 kTab) Tg fg)∈O)(X:List Nat)(hX:∀i,X.getD i 0<256)(Ps:List (List Nat))(hP:∀X∈Ps,∀i,X.getD i 0<256)(hl:X.length+(packN Ps).length<100000000)(p:Option Addr)(cap:Nat)(hO:StrsO O p Ps)(w0:World)(H:Has w0 O) :
  Calls Tryz.prog 73 #[sB X,.slice p Ps.length cap] w0 fun e w'=>e=.returned (.agg (cn .u8 (idN X Ps)))∧Below w0.heap.size w0 w':=by
 refine eF Tryz.func73 rfl Tryz.ntmps73 (by simp) fun ac (FF:Fr 12 ac [(0,sB X),(1,.slice p Ps.length cap)])=>?_
 have MM:MemS (fun k=>k<w0.heap.size∧∀x∈O,x.1≠k) w0 w0 O []:=MemS.startN H hD
 refine wp_seq (rg_c FF MM [(0,s_ 0 (.cells (cn .u8 (List.replicate 16 0)) 95))] 5 [] [] (⟨(by kernel_rfl),fun bo=>fun _ _ FF1 MM1=>tN ?_⟩))
 refine wp_seq (rg_c FF1 MM1 [(2,u_ 1 (.agg (cn .u8 (shaN (packN [X]++packN Ps))))),(0,s_ 0 (.cells (cn .u8 (List.replicate 32 0)) 52)),(0,b_ 0)] 0 [4,5] [] (⟨⟨en_key,fun w Hw=>key_any Tg fg X hX Ps hP hl p cap w (hO.at (Has.tl Hw)) (Has.mem (Has.tl Hw) hK)⟩,(by kernel_rfl),fun bk=>⟨rfl,((cZ _ _).trans (List.length_replicate ..)),((cZ _ _).trans (shaN_bytes _).len),(cn_one _ _),rfl,fun _ _ FF2 MM2=>tN ?_⟩⟩))
 refine wp_seq (rg_c FF2 MM2 [(2,l_ 0 (.agg (cn .u8 (idN X Ps)))),(0,b_ 1)] 6 [] [] (⟨by decide,by decide,by decide,by decide,rfl,(part_cut (off:=0) (len:=16) (shaN_bytes _).len (by decide)),((cZ _ _).trans (idN_len _ _)),rfl,((cZ _ _).trans (List.length_replicate ..)),((cZ _ _).trans (idN_len _ _)),(cn_one _ _),rfl,fun _ _ FF3 MM3=>tN ?_⟩))
 refine wp_ret ?_
 repeat first | refine tR ?_ | refine iR ?_
 exact(retc FF3 MM3 (k:=16) (i:=1) (j:=1) Tryz.results73 rfl rfl Tryz.underlying95 rfl (by kernel_rfl) ((cZ _ _).trans (idN_len _ _)) ⟨rfl,MM3.belowN H (fun x hx=>List.mem_cons_of_mem _ (List.mem_cons_of_mem _ (hx)))⟩)
theorem did_any (Tg:TypeId)(fg:Nat×Nat)(X:List Nat)(hX:∀i,X.getD i 0<256)(Ps:List (List Nat))(hP:∀X∈Ps,∀i,X.getD i 0<256)(hl:X.length+(packN Ps).length<100000000)(p:Option Addr)(cap:Nat)(w0:World)(h:StrsIn w0 p Ps)(hg:w0.heap[0]? = some (.cells (cn .u32 kTab) Tg fg)) :
  Calls Tryz.prog 73 #[sB X,.slice p Ps.length cap] w0 fun e w'=>e=.returned (.agg (cn .u8 (idN X Ps)))∧Below w0.heap.size w0 w':=by
 obtain⟨O,hD,H,hK,hO⟩:=tabO_of hg h
 exact did_O O hD Tg fg hK X hX Ps hP hl p cap hO w0 H
theorem round_any (n:Nat)(hn:n<18446744073709551616)(w0:World) :
  Calls Tryz.prog 74 #[iW n] w0 fun e w'=>e=.returned (sB (leN 8 n))∧Below w0.heap.size w0 w':=by
 refine eF Tryz.func74 rfl Tryz.ntmps74 (by simp) fun ac (FF:Fr 5 ac [(0,iW n)])=>?_
 have MM:=MemS.start w0
 refine wp_seq (rg_c FF MM [(0,t_ (sB []))] 3 [] [] (⟨(by kernel_rfl),fun _ _ FF1 MM1=>tN ?_⟩))
 refine wp_seq (rg_c FF1 MM1 [(1,t_ (sB (leN 8 n)))] 0 [2] [] (⟨(cP en_lowest (lowest_any n 8 (by have:=hn;omega) (by decide)) _),fun _ _ FF2 MM2=>tN ?_⟩))
 refine wp_ret ?_
 repeat first | refine tR ?_ | refine iR ?_
 exact(ret_fr FF2 0 Tryz.results74 rfl ⟨rfl,MM2.below⟩)
def nonN (a r:Nat):List Nat:=leN 4 a++leN 8 r
theorem nonN_len (a r:Nat):(nonN a r).length=12:=by rw [nonN,List.length_append,leN_len,leN_len]
theorem nonN_lt (a r i:Nat):(nonN a r).getD i 0<256:=app_lt (leN_lt 4 a) (leN_lt 8 r) i
theorem nonce_any (a r:Nat)(ha:a<4294967296)(hr:r<18446744073709551616)(w0:World) :
  Calls Tryz.prog 50 #[.int .u32 (a:Nat),iW r] w0 fun e w'=>e=.returned (.agg (cn .u8 (nonN a r)))∧Below w0.heap.size w0 w':=by
 refine eF Tryz.func50 rfl Tryz.ntmps50 (by simp) fun ac (FF:Fr 14 ac [(0,.int .u32 (a:Nat)),(1,iW r)])=>?_
 have MM:=MemS.start w0
 refine wp_seq (rg_c FF MM [(0,s_ 0 (.cells (cn .u8 (List.replicate 12 0)) 124))] 5 [] [] (⟨(by kernel_rfl),fun bo=>fun _ _ FF1 MM1=>tN ?_⟩))
 refine wp_seq (wp_region_list ?_)
 refine rp_c 6 FF1 MM1 [(1,w_ 1),(0,t_ (sB (leN 4 a))),(1,t_ (sB (leN 8 r))),(0,t_ (sB (nonN a r)))] 0 [4,10] [] (⟨(by have:=ha;omega),(cP en_lowest (lowest_any a 4 (by have:=ha;omega) (by decide)) _),(cP en_round (round_any r (by have:=hr;omega)) _),(by simp only [bs_size,leN_len];decide),(vS2 (bs_app _ _)),fun _ _ FF2 MM2=>?_⟩)
 refine st_new [4,11] FF2 MM2 (d:=11) (bytes_ok (e:=5) (x:=(.tmp 10)) (by kernel_rfl) rfl (nonN_lt _ _) Tryz.underlying9 Tryz.underlying77 Tryz.underlying5) rfl rfl (by decide) fun ac4 wd4 b1 cz3 FF4 MM4=>?_
 refine rp_c 3 FF4 MM4 [(1,l_ 0 (.agg (cn .u8 (nonN a r)))),(0,b_ 1)] 5 [] [] (⟨(by rw [nonN_len];decide),rfl,(part_rep _ _),((cZ _ _).trans (nonN_len _ _)),rfl,((cZ _ _).trans (List.length_replicate ..)),((cZ _ _).trans (nonN_len _ _)),(cn_one _ _),rfl,fun _ _ FF5 MM5=>?_⟩)
 refine wpl_nil (tN ?_)
 refine wp_ret ?_
 repeat first | refine tR ?_ | refine iR ?_
 exact(retc FF5 MM5 (k:=12) (i:=1) (j:=0) Tryz.results50 rfl rfl Tryz.underlying124 rfl (by kernel_rfl) ((cZ _ _).trans (nonN_len _ _)) ⟨rfl,MM5.below⟩)
def fw0 (n:Nat):Nat:=n%18446744073709551616
def fw1 (n:Nat):Nat:=n/18446744073709551616%18446744073709551616
def fw2 (n:Nat):Nat:=n/18446744073709551616/18446744073709551616%18446744073709551616
def fw3 (n:Nat):Nat:=n/18446744073709551616/18446744073709551616/18446744073709551616%18446744073709551616
def top4:Nat:=115792089237316195423570985008687907853269984665640564039457584007913129639936
def pN:Nat:=57896044618658097711785492504343953926634992332820282019728792003956564819949
def b255:Nat:=57896044618658097711785492504343953926634992332820282019728792003956564819968
def sumLo (x y c:Nat):Nat:=(x+y+c)%18446744073709551616
def sumHi (x y c:Nat):Nat:=(x+y+c)/18446744073709551616
def subLo (x y b:Nat):Nat:=(x+18446744073709551616-y-b)%18446744073709551616
def subHi (x y b:Nat):Nat:=if x<y+b then 1 else 0
def maHi (n m s t:Nat):Nat:=(n*m+s+t)/18446744073709551616
def maLo (n m s t:Nat):Nat:=(n*m+s+t)%18446744073709551616
def mk4 (a b c d:Nat):Nat:=a+18446744073709551616*b+340282366920938463463374607431768211456*c+6277101735386680763835789423207666416102355444464034512896*d
theorem fw0_lt (n:Nat):fw0 n<18446744073709551616:=Nat.mod_lt _ (by decide)
theorem fw1_lt (n:Nat):fw1 n<18446744073709551616:=Nat.mod_lt _ (by decide)
theorem fw2_lt (n:Nat):fw2 n<18446744073709551616:=Nat.mod_lt _ (by decide)
theorem fw3_lt (n:Nat):fw3 n<18446744073709551616:=Nat.mod_lt _ (by decide)
theorem mk4_w (n:Nat)(h:n<top4):mk4 (fw0 n) (fw1 n) (fw2 n) (fw3 n)=n:=by
 unfold mk4 fw0 fw1 fw2 fw3 top4 at *;omega
theorem mk4_lt {a b c d:Nat}(ha:a<18446744073709551616)(hb:b<18446744073709551616)(hc:c<18446744073709551616)(hd:d<18446744073709551616):mk4 a b c d<top4:=by
 unfold mk4 top4;omega
theorem w_mk4 {a b c d:Nat}(ha:a<18446744073709551616)(hb:b<18446744073709551616)(hc:c<18446744073709551616)(hd:d<18446744073709551616) :
  fw0 (mk4 a b c d)=a∧fw1 (mk4 a b c d)=b∧fw2 (mk4 a b c d)=c∧fw3 (mk4 a b c d)=d:=by
 unfold mk4 fw0 fw1 fw2 fw3;omega
theorem sumHi_le {x y c:Nat}(hx:x<18446744073709551616)(hy:y<18446744073709551616)(hc:c≤1):sumHi x y c≤1:=by unfold sumHi;omega
theorem subHi_le (x y c:Nat):subHi x y c≤1:=by unfold subHi;split <;> omega
theorem plus_words (x y:Nat) :
  sumLo (fw0 x) (fw0 y) 0=fw0 (x+y)∧sumLo (fw1 x) (fw1 y) (sumHi (fw0 x) (fw0 y) 0)=fw1 (x+y)∧
  sumLo (fw2 x) (fw2 y) (sumHi (fw1 x) (fw1 y) (sumHi (fw0 x) (fw0 y) 0))=fw2 (x+y)∧
  sumLo (fw3 x) (fw3 y) (sumHi (fw2 x) (fw2 y) (sumHi (fw1 x) (fw1 y) (sumHi (fw0 x) (fw0 y) 0)))=fw3 (x+y):=by
 unfold sumLo sumHi fw0 fw1 fw2 fw3;omega
theorem opp_words (x:Nat)(h:x≤pN) :
  subLo 18446744073709551597 (fw0 x) 0=fw0 (pN-x)∧subLo 18446744073709551615 (fw1 x) (subHi 18446744073709551597 (fw0 x) 0)=fw1 (pN-x)∧
  subLo 18446744073709551615 (fw2 x) (subHi 18446744073709551615 (fw1 x) (subHi 18446744073709551597 (fw0 x) 0))=fw2 (pN-x)∧
  subLo 9223372036854775807 (fw3 x) (subHi 18446744073709551615 (fw2 x) (subHi 18446744073709551615 (fw1 x) (subHi 18446744073709551597 (fw0 x) 0)))=fw3 (pN-x):=by
 unfold subLo subHi fw0 fw1 fw2 fw3 pN at *
 refine⟨by omega,?_,?_,?_⟩ <;> (repeat' split) <;> omega
theorem ma_lt {n m s t:Nat}(hn:n<18446744073709551616)(hm:m<18446744073709551616)(hs:s<18446744073709551616)(ht:t<18446744073709551616) :
  n*m+s+t<340282366920938463463374607431768211456:=by
 have:n*m≤18446744073709551615*18446744073709551615:=Nat.mul_le_mul (by omega) (by omega)
 omega
theorem maHi_lt {n m s t:Nat}(hn:n<18446744073709551616)(hm:m<18446744073709551616)(hs:s<18446744073709551616)(ht:t<18446744073709551616):maHi n m s t<18446744073709551616:=by
 have:=ma_lt hn hm hs ht
 unfold maHi;omega
theorem times_words (n x s:Nat)(hx:x<top4) :
  maLo n (fw0 x) (fw0 s) 0=fw0 (n*x+s)∧maLo n (fw1 x) (fw1 s) (maHi n (fw0 x) (fw0 s) 0)=fw1 (n*x+s)∧
  maLo n (fw2 x) (fw2 s) (maHi n (fw1 x) (fw1 s) (maHi n (fw0 x) (fw0 s) 0))=fw2 (n*x+s)∧
  maLo n (fw3 x) (fw3 s) (maHi n (fw2 x) (fw2 s) (maHi n (fw1 x) (fw1 s) (maHi n (fw0 x) (fw0 s) 0)))=fw3 (n*x+s)∧
  (s<top4→maHi n (fw3 x) (fw3 s) (maHi n (fw2 x) (fw2 s) (maHi n (fw1 x) (fw1 s) (maHi n (fw0 x) (fw0 s) 0)))=(n*x+s)/top4):=by
 have e:n*x=n*fw0 x+18446744073709551616*(n*fw1 x)+340282366920938463463374607431768211456*(n*fw2 x)+6277101735386680763835789423207666416102355444464034512896*(n*fw3 x):=by
  have h:=mk4_w x hx
  unfold mk4 at h
  have h2:n*x=n*(fw0 x+18446744073709551616*fw1 x+340282366920938463463374607431768211456*fw2 x+6277101735386680763835789423207666416102355444464034512896*fw3 x):=by rw [h]
  rw [h2,Nat.mul_add,Nat.mul_add,Nat.mul_add,Nat.mul_left_comm,Nat.mul_left_comm n 340282366920938463463374607431768211456,Nat.mul_left_comm n 6277101735386680763835789423207666416102355444464034512896]
 rw [e]
 unfold maLo maHi
 generalize n*fw0 x=a
 generalize n*fw1 x=b
 generalize n*fw2 x=c
 generalize n*fw3 x=d
 clear e hx
 unfold fw0 fw1 fw2 fw3 top4
 refine⟨by omega,by omega,by omega,by omega,fun _=>by omega⟩
theorem shift_words (n:Nat):fw0 (n/18446744073709551616)=fw1 n∧fw1 (n/18446744073709551616)=fw2 n∧fw2 (n/18446744073709551616)=fw3 n:=by
 unfold fw0 fw1 fw2 fw3;omega
theorem shift_top (n:Nat)(h:n<2135987035920910082395021706169552114602704522356652769947041607822219725780640550022962086936576):fw3 (n/18446744073709551616)=n/top4:=by
 unfold fw3 top4;omega
def ov (x t:Nat):Nat:=2*t+fw3 x/9223372036854775808
def mid (x t:Nat):Nat:=x%b255+19*ov x t
def red (x t:Nat):Nat:=(x+top4*t)%pN
theorem ov_le {x t:Nat}(ht:t≤38):ov x t≤77:=by have:=fw3_lt x;unfold ov;omega
theorem cut_words (x:Nat):fw0 (x%b255)=fw0 x∧fw1 (x%b255)=fw1 x∧fw2 (x%b255)=fw2 x∧fw3 (x%b255)=fw3 x%9223372036854775808:=by
 have e:b255=18446744073709551616*(18446744073709551616*(18446744073709551616*9223372036854775808)):=by decide
 have h1:x%b255%18446744073709551616=x%18446744073709551616:=by rw [e];exact Nat.mod_mul_right_mod x _ _
 have h2:x%b255/18446744073709551616=x/18446744073709551616%(18446744073709551616*(18446744073709551616*9223372036854775808)):=by
  rw [e];exact Nat.mod_mul_right_div_self x _ _
 unfold fw0 fw1 fw2 fw3
 rw [h2]
 generalize x/18446744073709551616=y
 refine⟨h1,Nat.mod_mul_right_mod y _ _,?_,?_⟩
 ·rw [Nat.mod_mul_right_div_self];exact Nat.mod_mul_right_mod _ _ _
 ·rw [Nat.mod_mul_right_div_self,Nat.mod_mul_right_div_self];omega
theorem small_words (n:Nat)(h:n<18446744073709551616):fw0 n=n∧fw1 n=0∧fw2 n=0∧fw3 n=0:=by
 unfold fw0 fw1 fw2 fw3;omega
theorem fw3_half (n:Nat)(h:n<top4):fw3 n/9223372036854775808=n/b255:=by
 unfold fw3 top4 b255 at *;omega
theorem mid_lt {x t:Nat}(ht:t≤38):mid x t<b255+1464:=by
 have:=ov_le (x:=x) ht
 have h2:x%b255<b255:=Nat.mod_lt _ (by decide)
 unfold mid;omega
theorem red_mid {x t:Nat}(hx:x<top4):red x t=mid x t%pN:=by
 have h2:=fw3_half x hx
 have h3:x%b255+b255*(x/b255)=x:=Nat.mod_add_div _ _
 have e:x+top4*t=mid x t+pN*ov x t:=by
  unfold mid ov
  rw [h2]
  generalize x%b255=r at *
  generalize x/b255=q at *
  subst h3
  unfold top4 pN b255
  omega
 unfold red
 rw [e,Nat.add_mul_mod_self_left]
theorem settle_lo {x t:Nat}(hx:x<top4)(ht:t≤38)(h:fw3 (mid x t+19)/9223372036854775808=0):mid x t=red x t:=by
 have h1:=mid_lt (x:=x) ht
 rw [red_mid hx]
 rw [fw3_half _ (by unfold top4 b255 at *;omega)]at h
 generalize mid x t=m at *
 unfold b255 pN at *
 omega
theorem settle_hi {x t:Nat}(hx:x<top4)(ht:t≤38)(h:¬fw3 (mid x t+19)/9223372036854775808=0):(mid x t+19)%b255=red x t∧fw3 (mid x t+19)/9223372036854775808=1:=by
 have h1:=mid_lt (x:=x) ht
 rw [red_mid hx]
 rw [fw3_half _ (by unfold top4 b255 at *;omega)]at *
 generalize mid x t=m at *
 unfold b255 pN at *
 omega
def S1 (x y:Nat):Nat:=fw0 x*y+0
def S2 (x y:Nat):Nat:=fw1 x*y+S1 x y/18446744073709551616
def S3 (x y:Nat):Nat:=fw2 x*y+S2 x y/18446744073709551616
def S4 (x y:Nat):Nat:=fw3 x*y+S3 x y/18446744073709551616
def lowN (x y:Nat):Nat:=mk4 (fw0 (S1 x y)) (fw0 (S2 x y)) (fw0 (S3 x y)) (fw0 (S4 x y))
theorem word_mul_le {a y:Nat}(ha:a<18446744073709551616)(hy:y<top4):a*y≤18446744073709551615*(top4-1):=Nat.mul_le_mul (by omega) (by omega)
theorem S_lt (x:Nat){y:Nat}(hy:y<top4):S1 x y/18446744073709551616<top4∧S2 x y/18446744073709551616<top4∧S3 x y/18446744073709551616<top4∧S4 x y/18446744073709551616<top4:=by
 have a0:=word_mul_le (fw0_lt x) hy
 have a1:=word_mul_le (fw1_lt x) hy
 have a2:=word_mul_le (fw2_lt x) hy
 have a3:=word_mul_le (fw3_lt x) hy
 unfold S4 S3 S2 S1
 unfold top4 at *
 omega
theorem S_small (x:Nat){y:Nat}(hy:y<top4):S1 x y<2135987035920910082395021706169552114602704522356652769947041607822219725780640550022962086936576∧S2 x y<2135987035920910082395021706169552114602704522356652769947041607822219725780640550022962086936576∧S3 x y<2135987035920910082395021706169552114602704522356652769947041607822219725780640550022962086936576∧S4 x y<2135987035920910082395021706169552114602704522356652769947041607822219725780640550022962086936576:=by
 have h:=S_lt x hy
 unfold top4 at h
 omega
theorem lowN_lt (x y:Nat):lowN x y<top4:=mk4_lt (fw0_lt _) (fw0_lt _) (fw0_lt _) (fw0_lt _)
theorem prod_eq (x y:Nat)(hx:x<top4):x*y=lowN x y+top4*(S4 x y/18446744073709551616):=by
 have e:x*y=fw0 x*y+18446744073709551616*(fw1 x*y)+340282366920938463463374607431768211456*(fw2 x*y)+6277101735386680763835789423207666416102355444464034512896*(fw3 x*y):=by
  have h:=mk4_w x hx
  unfold mk4 at h
  have h2:x*y=(fw0 x+18446744073709551616*fw1 x+340282366920938463463374607431768211456*fw2 x+6277101735386680763835789423207666416102355444464034512896*fw3 x)*y:=by rw [h]
  rw [h2,Nat.add_mul,Nat.add_mul,Nat.add_mul,Nat.mul_assoc,Nat.mul_assoc 340282366920938463463374607431768211456,Nat.mul_assoc 6277101735386680763835789423207666416102355444464034512896]
 rw [e]
 unfold lowN mk4 S4 S3 S2 S1
 generalize fw0 x*y=a
 generalize fw1 x*y=b
 generalize fw2 x*y=c
 generalize fw3 x*y=d
 unfold fw0 top4
 omega
theorem prod_red (x y:Nat)(hx:x<top4)(hy:y<top4) :
  (38*(S4 x y/18446744073709551616)+lowN x y)/top4≤38∧
  red ((38*(S4 x y/18446744073709551616)+lowN x y)%top4) ((38*(S4 x y/18446744073709551616)+lowN x y)/top4)=x*y%pN:=by
 have h1:=prod_eq x y hx
 have h2:=(S_lt x hy).2.2.2
 have h3:=lowN_lt x y
 rw [h1]
 generalize S4 x y/18446744073709551616=H at *
 generalize lowN x y=L at *
 unfold red
 clear h1 hx hy
 have e:top4=2*pN+38:=by decide
 refine⟨by unfold top4 at *;omega,?_⟩
 have e2:(38*H+L)%top4+top4*((38*H+L)/top4)=38*H+L:=Nat.mod_add_div _ _
 rw [e2]
 have e3:L+top4*H=(38*H+L)+pN*(2*H):=by rw [e,Nat.add_mul,←Nat.mul_assoc pN 2 H,Nat.mul_comm pN 2];omega
 rw [e3,Nat.add_mul_mod_self_left]
theorem en_mul64:Enters Tryz.prog 148:=fun args w=>by simp [go_sem]
theorem en_fplus:Enters Tryz.prog 163:=fun args w=>by simp [go_sem]
theorem en_fopp:Enters Tryz.prog 165:=fun args w=>by simp [go_sem]
theorem en_fma:Enters Tryz.prog 192:=fun args w=>by simp [go_sem]
theorem en_ftimes:Enters Tryz.prog 166:=fun args w=>by simp [go_sem]
theorem en_fprod:Enters Tryz.prog 138:=fun args w=>by simp [go_sem]
theorem en_fsettle:Enters Tryz.prog 134:=fun args w=>by simp [go_sem]
theorem en_fchoose:Enters Tryz.prog 164:=fun args w=>by simp [go_sem]
theorem en_fOf:Enters Tryz.prog 103:=fun args w=>by simp [go_sem]
theorem en_fword:Enters Tryz.prog 133:=fun args w=>by simp [go_sem]
theorem en_fNum:Enters Tryz.prog 104:=fun args w=>by simp [go_sem]
theorem en_fKey:Enters Tryz.prog 109:=fun args w=>by simp [go_sem]
theorem en_fAdd:Enters Tryz.prog 136:=fun args w=>by simp [go_sem]
theorem en_fSub:Enters Tryz.prog 137:=fun args w=>by simp [go_sem]
theorem en_fMul:Enters Tryz.prog 107:=fun args w=>by simp [go_sem]
theorem en_fInv:Enters Tryz.prog 108:=fun args w=>by simp [go_sem]
theorem en_fPick:Enters Tryz.prog 135:=fun args w=>by simp [go_sem]
theorem runV_as {P:Program}{l:Slots}{L:Blks}{o:Oper}{v v':Value}(e:v=v')(h:RunV P l L o v):RunV P l L o v':=e▸h
theorem tup_uu {a a' b b':Nat}(h1:a=a')(h2:b=b'):Value.tuple #[iW a,iW b]=Value.tuple #[iW a',iW b']:=by rw [h1,h2]
theorem lt_of_eq_lt {a b c:Nat}(h1:a=b)(h2:b<c):a<c:=h1▸h2
theorem fplus_any (x y:Nat)(w0:World) :
  Calls Tryz.prog 163 #[.agg #[iW (fw0 x),iW (fw1 x),iW (fw2 x),iW (fw3 x)],.agg #[iW (fw0 y),iW (fw1 y),iW (fw2 y),iW (fw3 y)]] w0 fun e w'=>e=.returned (.agg #[iW (fw0 (x+y)),iW (fw1 (x+y)),iW (fw2 (x+y)),iW (fw3 (x+y))])∧Below w0.heap.size w0 w':=by
 refine eF Tryz.func163 rfl Tryz.ntmps163 (by simp) fun ac (FF:Fr 46 ac [(0,aG #[iW (fw0 x),iW (fw1 x),iW (fw2 x),iW (fw3 x)]),(1,aG #[iW (fw0 y),iW (fw1 y),iW (fw2 y),iW (fw3 y)])])=>?_
 have MM:=MemS.start w0
 obtain⟨p0,p1,p2,p3⟩:=plus_words x y
 obtain⟨c1,e1⟩:∃z,sumHi (fw0 x) (fw0 y) 0=z:=⟨_,rfl⟩
 rw [e1]at p1 p2 p3
 have h1:c1≤1:=e1▸sumHi_le (fw0_lt x) (fw0_lt y) (by decide)
 obtain⟨c2,e2⟩:∃z,sumHi (fw1 x) (fw1 y) c1=z:=⟨_,rfl⟩
 rw [e2]at p2 p3
 have h2:c2≤1:=e2▸sumHi_le (fw1_lt x) (fw1_lt y) h1
 obtain⟨c3,e3⟩:∃z,sumHi (fw2 x) (fw2 y) c2=z:=⟨_,rfl⟩
 rw [e3]at p3
 have h3:c3≤1:=e3▸sumHi_le (fw2_lt x) (fw2_lt y) h2
 obtain⟨c4,e4⟩:∃z,sumHi (fw3 x) (fw3 y) c3=z:=⟨_,rfl⟩
 have h4:c4≤1:=e4▸sumHi_le (fw3_lt x) (fw3_lt y) h3
 refine wp_seq (rg_c FF MM [] 5 [] [0,1] (fun bx=>fun by_=>fun br=>fun _ _ FF1 MM1=>tN ?_))
 refine wp_seq (rg_c FF1 MM1 [] 6 [] [] (fun _ _ FF2 MM2=>tN ?_))
 refine wp_seq (rg_c FF2 MM2 [(1,l_ 2 (iW (fw0 x))),(1,l_ 1 (iW (fw0 y))),(0,f_ (.tuple #[iW (fw0 (x+y)),iW c1])),(4,s_ 2 (oC #[iW (fw0 (x+y)),iW (fw1 x),iW (fw2 x),iW (fw3 x)] 192))] 6 [] [] (⟨rfl,rfl,rfl,rfl,(runV_as (tup_uu p0 e1) (add64_ok (f:=190) (ts:=#[22,22,22]) (x:=(.tmp 8)) (y:=(.tmp 10)) (z:=(.const (iW 0))) (a:=fw0 x) (b:=fw0 y) (c:=0) (by omega) (by kernel_rfl) rfl rfl rfl Tryz.func190 (by kernel_rfl) (by kernel_rfl) (by kernel_rfl) (by kernel_rfl))),rfl,(by simp),(.inl rfl),rfl,fun _ _ FF3 MM3=>tN ?_⟩))
 refine wp_seq (rg_c FF3 MM3 [(1,l_ 2 (iW (fw1 x))),(1,l_ 1 (iW (fw1 y))),(1,f_ (.tuple #[iW (fw1 (x+y)),iW c2])),(4,s_ 2 (oC #[iW (fw0 (x+y)),iW (fw1 (x+y)),iW (fw2 x),iW (fw3 x)] 192))] 6 [] [] (⟨rfl,rfl,rfl,rfl,(runV_as (tup_uu p1 e2) (add64_ok (f:=190) (ts:=#[22,22,22]) (x:=(.tmp 17)) (y:=(.tmp 19)) (z:=(.tmp 20)) (a:=fw1 x) (b:=fw1 y) (c:=c1) (by omega) (by kernel_rfl) rfl rfl rfl Tryz.func190 (by kernel_rfl) (by kernel_rfl) (by kernel_rfl) (by kernel_rfl))),rfl,(by simp),(.inl rfl),rfl,fun _ _ FF4 MM4=>tN ?_⟩))
 refine wp_seq (rg_c FF4 MM4 [(1,l_ 2 (iW (fw2 x))),(1,l_ 1 (iW (fw2 y))),(1,f_ (.tuple #[iW (fw2 (x+y)),iW c3])),(4,s_ 2 (oC #[iW (fw0 (x+y)),iW (fw1 (x+y)),iW (fw2 (x+y)),iW (fw3 x)] 192))] 6 [] [] (⟨rfl,rfl,rfl,rfl,(runV_as (tup_uu p2 e3) (add64_ok (f:=190) (ts:=#[22,22,22]) (x:=(.tmp 27)) (y:=(.tmp 29)) (z:=(.tmp 30)) (a:=fw2 x) (b:=fw2 y) (c:=c2) (by omega) (by kernel_rfl) rfl rfl rfl Tryz.func190 (by kernel_rfl) (by kernel_rfl) (by kernel_rfl) (by kernel_rfl))),rfl,(by simp),(.inl rfl),rfl,fun _ _ FF5 MM5=>tN ?_⟩))
 refine wp_seq (rg_c FF5 MM5 [(1,l_ 2 (iW (fw3 x))),(1,l_ 1 (iW (fw3 y))),(1,f_ (.tuple #[iW (fw3 (x+y)),iW c4])),(4,s_ 2 (oC #[iW (fw0 (x+y)),iW (fw1 (x+y)),iW (fw2 (x+y)),iW (fw3 (x+y))] 192))] 6 [] [] (⟨rfl,rfl,rfl,rfl,(runV_as (tup_uu p3 e4) (add64_ok (f:=190) (ts:=#[22,22,22]) (x:=(.tmp 37)) (y:=(.tmp 39)) (z:=(.tmp 40)) (a:=fw3 x) (b:=fw3 y) (c:=c3) (by omega) (by kernel_rfl) rfl rfl rfl Tryz.func190 (by kernel_rfl) (by kernel_rfl) (by kernel_rfl) (by kernel_rfl))),rfl,(by simp),(.inl rfl),rfl,fun _ _ FF6 MM6=>tN ?_⟩))
 refine wp_seq (rg_c FF6 MM6 [(0,b_ 2),(0,b_ 0)] 6 [] [] (⟨rfl,rfl,rfl,rfl,rfl,(by kernel_rfl),rfl,fun _ _ FF7 MM7=>tN ?_⟩))
 refine wp_ret ?_
 repeat first | refine tR ?_ | refine iR ?_
 exact(retc FF7 MM7 (k:=4) (i:=0) (j:=1) Tryz.results163 rfl rfl Tryz.underlying192 rfl (by kernel_rfl) rfl ⟨rfl,MM7.below⟩)
theorem fopp_any (x:Nat)(hx:x≤pN)(w0:World) :
  Calls Tryz.prog 165 #[.agg #[iW (fw0 x),iW (fw1 x),iW (fw2 x),iW (fw3 x)]] w0 fun e w'=>e=.returned (.agg #[iW (fw0 (pN-x)),iW (fw1 (pN-x)),iW (fw2 (pN-x)),iW (fw3 (pN-x))])∧Below w0.heap.size w0 w':=by
 refine eF Tryz.func165 rfl Tryz.ntmps165 (by simp) fun ac (FF:Fr 36 ac [(0,aG #[iW (fw0 x),iW (fw1 x),iW (fw2 x),iW (fw3 x)])])=>?_
 have MM:=MemS.start w0
 obtain⟨p0,p1,p2,p3⟩:=opp_words x hx
 obtain⟨c1,e1⟩:∃z,subHi 18446744073709551597 (fw0 x) 0=z:=⟨_,rfl⟩
 rw [e1]at p1 p2 p3
 have h1:c1≤1:=e1▸subHi_le _ _ _
 obtain⟨c2,e2⟩:∃z,subHi 18446744073709551615 (fw1 x) c1=z:=⟨_,rfl⟩
 rw [e2]at p2 p3
 have h2:c2≤1:=e2▸subHi_le _ _ _
 obtain⟨c3,e3⟩:∃z,subHi 18446744073709551615 (fw2 x) c2=z:=⟨_,rfl⟩
 rw [e3]at p3
 have h3:c3≤1:=e3▸subHi_le _ _ _
 obtain⟨c4,e4⟩:∃z,subHi 9223372036854775807 (fw3 x) c3=z:=⟨_,rfl⟩
 have h4:c4≤1:=e4▸subHi_le _ _ _
 refine wp_seq (rg_c FF MM [] 3 [] [0] (fun bx=>fun br=>fun _ _ FF1 MM1=>tN ?_))
 refine wp_seq (rg_c FF1 MM1 [] 4 [] [] (fun _ _ FF2 MM2=>tN ?_))
 refine wp_seq (rg_c FF2 MM2 [(1,l_ 1 (iW (fw0 x))),(0,f_ (.tuple #[iW (fw0 (pN-x)),iW c1])),(4,s_ 1 (oC #[iW (fw0 (pN-x)),iW (fw1 x),iW (fw2 x),iW (fw3 x)] 192))] 4 [] [] (⟨rfl,rfl,(runV_as (tup_uu p0 e1) (sub64_ok (f:=191) (ts:=#[22,22,22]) (x:=(.const (iW 18446744073709551597))) (y:=(.tmp 6)) (z:=(.const (iW 0))) (a:=18446744073709551597) (b:=fw0 x) (c:=0) (by omega) (by kernel_rfl) rfl rfl rfl Tryz.func191 (by kernel_rfl) (by kernel_rfl) (by kernel_rfl) (by kernel_rfl))),rfl,(by simp),(.inl rfl),rfl,fun _ _ FF3 MM3=>tN ?_⟩))
 refine wp_seq (rg_c FF3 MM3 [(1,l_ 1 (iW (fw1 x))),(1,f_ (.tuple #[iW (fw1 (pN-x)),iW c2])),(4,s_ 1 (oC #[iW (fw0 (pN-x)),iW (fw1 (pN-x)),iW (fw2 x),iW (fw3 x)] 192))] 4 [] [] (⟨rfl,rfl,(runV_as (tup_uu p1 e2) (sub64_ok (f:=191) (ts:=#[22,22,22]) (x:=(.const (iW 18446744073709551615))) (y:=(.tmp 13)) (z:=(.tmp 14)) (a:=18446744073709551615) (b:=fw1 x) (c:=c1) (by omega) (by kernel_rfl) rfl rfl rfl Tryz.func191 (by kernel_rfl) (by kernel_rfl) (by kernel_rfl) (by kernel_rfl))),rfl,(by simp),(.inl rfl),rfl,fun _ _ FF4 MM4=>tN ?_⟩))
 refine wp_seq (rg_c FF4 MM4 [(1,l_ 1 (iW (fw2 x))),(1,f_ (.tuple #[iW (fw2 (pN-x)),iW c3])),(4,s_ 1 (oC #[iW (fw0 (pN-x)),iW (fw1 (pN-x)),iW (fw2 (pN-x)),iW (fw3 x)] 192))] 4 [] [] (⟨rfl,rfl,(runV_as (tup_uu p2 e3) (sub64_ok (f:=191) (ts:=#[22,22,22]) (x:=(.const (iW 18446744073709551615))) (y:=(.tmp 21)) (z:=(.tmp 22)) (a:=18446744073709551615) (b:=fw2 x) (c:=c2) (by omega) (by kernel_rfl) rfl rfl rfl Tryz.func191 (by kernel_rfl) (by kernel_rfl) (by kernel_rfl) (by kernel_rfl))),rfl,(by simp),(.inl rfl),rfl,fun _ _ FF5 MM5=>tN ?_⟩))
 refine wp_seq (rg_c FF5 MM5 [(1,l_ 1 (iW (fw3 x))),(1,f_ (.tuple #[iW (fw3 (pN-x)),iW c4])),(4,s_ 1 (oC #[iW (fw0 (pN-x)),iW (fw1 (pN-x)),iW (fw2 (pN-x)),iW (fw3 (pN-x))] 192))] 4 [] [] (⟨rfl,rfl,(runV_as (tup_uu p3 e4) (sub64_ok (f:=191) (ts:=#[22,22,22]) (x:=(.const (iW 9223372036854775807))) (y:=(.tmp 29)) (z:=(.tmp 30)) (a:=9223372036854775807) (b:=fw3 x) (c:=c3) (by omega) (by kernel_rfl) rfl rfl rfl Tryz.func191 (by kernel_rfl) (by kernel_rfl) (by kernel_rfl) (by kernel_rfl))),rfl,(by simp),(.inl rfl),rfl,fun _ _ FF6 MM6=>tN ?_⟩))
 refine wp_seq (rg_c FF6 MM6 [(0,b_ 1),(0,b_ 0)] 4 [] [] (⟨rfl,rfl,rfl,rfl,rfl,(by kernel_rfl),rfl,fun _ _ FF7 MM7=>tN ?_⟩))
 refine wp_ret ?_
 repeat first | refine tR ?_ | refine iR ?_
 exact(retc FF7 MM7 (k:=4) (i:=0) (j:=1) Tryz.results165 rfl rfl Tryz.underlying192 rfl (by kernel_rfl) rfl ⟨rfl,MM7.below⟩)
theorem xor_lt64 {a b:Nat}(ha:a<18446744073709551616)(hb:b<18446744073709551616):a ^^^ b<18446744073709551616:=Nat.xor_lt_two_pow (n:=64) ha hb
theorem and_all {a:Nat}(h:a<18446744073709551616):18446744073709551615 &&& a=a:=by
 rw [Nat.and_comm]
 exact(Nat.and_two_pow_sub_one_eq_mod a 64).trans (Nat.mod_eq_of_lt h)
theorem xor_back (a b:Nat):a ^^^ (a ^^^ b)=b:=by rw [←Nat.xor_assoc,Nat.xor_self,Nat.zero_xor]
theorem mul64_any (x y:Nat)(hx:x<18446744073709551616)(hy:y<18446744073709551616)(w0:World) :
  Calls Tryz.prog 148 #[iW x,iW y] w0 fun e w'=>e=.returned (.tuple #[iW (x*y/18446744073709551616),iW (x*y%18446744073709551616)])∧Below w0.heap.size w0 w':=by
 refine eF Tryz.func148 rfl Tryz.ntmps148 (by simp) fun ac (FF:Fr 51 ac [(0,iW x),(1,iW y)])=>?_
 have MM:=MemS.start w0
 obtain⟨g1,g2,g3,g4⟩:=Lib.mul64_hi x y hx hy
 refine wp_seq (rg_c FF MM [] 6 [] [] (fun _ _ FF1 MM1=>tN ?_))
 refine wp_seq (rg_c FF1 MM1 [(1,t_ (iW (x%4294967296)))] 7 [] [] (⟨(by have:=hx;omega),by decide,(vI (and_low 32 _)),fun _ _ FF2 MM2=>tN ?_⟩))
 refine wp_seq (rg_c FF2 MM2 [(1,t_ (iW (x/4294967296)))] 8 [] [] (⟨by decide,rfl,fun _ _ FF3 MM3=>tN ?_⟩))
 refine wp_seq (rg_c FF3 MM3 [(1,t_ (iW (y%4294967296)))] 9 [] [] (⟨(by have:=hy;omega),by decide,(vI (and_low 32 _)),fun _ _ FF4 MM4=>tN ?_⟩))
 refine wp_seq (rg_c FF4 MM4 [(1,t_ (iW (y/4294967296)))] 9 [9] [] (⟨by decide,rfl,fun _ _ FF5 MM5=>tN ?_⟩))
 refine wp_seq (rg_c FF5 MM5 [(2,w_ 1)] 11 [] [] (⟨g1,fun _ _ FF6 MM6=>tN ?_⟩))
 refine wp_seq (rg_c FF6 MM6 [(2,w_ 1),(1,t_ (iW (((x%4294967296)*(y%4294967296))/4294967296))),(0,w_ 1)] 10 [11] [] (⟨(Nat.lt_of_le_of_lt (Nat.le_add_right _ _) g2),by decide,rfl,g2,fun _ _ FF7 MM7=>tN ?_⟩))
 refine wp_seq (rg_c FF7 MM7 [(1,t_ (iW ((((x/4294967296)*(y%4294967296))+(((x%4294967296)*(y%4294967296))/4294967296))%4294967296)))] 13 [] [] (⟨g2,by decide,(vI (and_low 32 _)),fun _ _ FF8 MM8=>tN ?_⟩))
 refine wp_seq (rg_c FF8 MM8 [(1,t_ (iW ((((x/4294967296)*(y%4294967296))+(((x%4294967296)*(y%4294967296))/4294967296))/4294967296)))] 14 [] [] (⟨by decide,rfl,fun _ _ FF9 MM9=>tN ?_⟩))
 refine wp_seq (rg_c FF9 MM9 [(3,w_ 1),(0,w_ 1)] 14 [] [] (⟨(Nat.lt_of_le_of_lt (Nat.le_add_left _ _) g3),g3,fun _ _ FF10 MM10=>tN ?_⟩))
 have g5:x*y/18446744073709551616<18446744073709551616:=Nat.div_lt_of_lt_mul (Nat.mul_lt_mul_of_lt_of_lt hx hy)
 refine wp_seq (rg_c FF10 MM10 [(2,w_ 1),(1,w_ 1),(1,t_ (iW ((((((x/4294967296)*(y%4294967296))+(((x%4294967296)*(y%4294967296))/4294967296))%4294967296)+((x%4294967296)*(y/4294967296)))/4294967296))),(0,u_ 1 (iW (x*y/18446744073709551616)))] 13 [] [] (⟨(Nat.lt_of_le_of_lt (Nat.le_trans (Nat.le_add_right _ _) (Nat.le_trans (Nat.le_add_right _ _) (Nat.le_of_eq g4))) g5),(Nat.lt_of_le_of_lt (Nat.le_trans (Nat.le_add_right _ _) (Nat.le_of_eq g4)) g5),by decide,rfl,(lt_of_eq_lt g4 g5),(vI g4),fun _ _ FF11 MM11=>tN ?_⟩))
 refine wp_seq (rg_c FF11 MM11 [] 13 [] [] (fun _ _ FF12 MM12=>tN ?_))
 refine wp_ret ?_
 repeat first | refine tR ?_ | refine iR ?_
 exact(ret_tup2 FF12 1 0 Tryz.results148 rfl rfl ⟨rfl,MM12.below⟩)
theorem fma_any (n:Nat)(m:Nat)(s:Nat)(t:Nat)(hn:n<18446744073709551616)(hm:m<18446744073709551616)(hs:s<18446744073709551616)(ht:t<18446744073709551616)(w0:World) :
  Calls Tryz.prog 192 #[iW n,iW m,iW s,iW t] w0 fun e w'=>e=.returned (.tuple #[iW (maHi n m s t),iW (maLo n m s t)])∧Below w0.heap.size w0 w':=by
 refine eF Tryz.func192 rfl Tryz.ntmps192 (by simp) fun ac (FF:Fr 36 ac [(0,iW n),(1,iW m),(2,iW s),(3,iW t)])=>?_
 have MM:=MemS.start w0
 have hnm:=ma_lt hn hm hs ht
 refine wp_seq (rg_c FF MM [] 9 [9] [] (fun _ _ FF1 MM1=>tN ?_))
 refine wp_seq (rg_c FF1 MM1 [(2,t_ (.tuple #[iW (n*m/18446744073709551616),iW (n*m%18446744073709551616)]))] 9 [9] [0,1] (⟨(cP en_mul64 (mul64_any n m hn hm) _),fun _ _ FF2 MM2=>tN ?_⟩))
 refine wp_seq (rg_c FF2 MM2 [(2,f_ (.tuple #[iW (((n*m%18446744073709551616)+s+0)%18446744073709551616),iW (((n*m%18446744073709551616)+s+0)/18446744073709551616)]))] 11 [] [2] (⟨(add64_ok (f:=190) (ts:=#[22,22,22]) (x:=(.tmp 18)) (y:=(.tmp 19)) (z:=(.const (iW 0))) (a:=n*m%18446744073709551616) (b:=s) (c:=0) (by omega) (by kernel_rfl) rfl rfl rfl Tryz.func190 (by kernel_rfl) (by kernel_rfl) (by kernel_rfl) (by kernel_rfl)),fun _ _ FF3 MM3=>tN ?_⟩))
 refine wp_seq (rg_c FF3 MM3 [(2,w_ 1)] 11 [] [] (⟨by omega,fun _ _ FF4 MM4=>tN ?_⟩))
 refine wp_seq (rg_c FF4 MM4 [(2,f_ (.tuple #[iW (((((n*m%18446744073709551616)+s+0)%18446744073709551616)+t+0)%18446744073709551616),iW (((((n*m%18446744073709551616)+s+0)%18446744073709551616)+t+0)/18446744073709551616)]))] 11 [] [3] (⟨(add64_ok (f:=190) (ts:=#[22,22,22]) (x:=(.tmp 27)) (y:=(.tmp 28)) (z:=(.const (iW 0))) (a:=((n*m%18446744073709551616)+s+0)%18446744073709551616) (b:=t) (c:=0) (by omega) (by kernel_rfl) rfl rfl rfl Tryz.func190 (by kernel_rfl) (by kernel_rfl) (by kernel_rfl) (by kernel_rfl)),fun _ _ FF5 MM5=>tN ?_⟩))
 refine wp_seq (rg_c FF5 MM5 [(2,w_ 1),(1,t_ (iW (maHi n m s t))),(0,t_ (iW (maLo n m s t)))] 11 [] [] (⟨by omega,(vI (by unfold maHi;omega)),(vI (by unfold maLo;omega)),fun _ _ FF6 MM6=>tN ?_⟩))
 refine wp_ret ?_
 repeat first | refine tR ?_ | refine iR ?_
 exact(ret_tup2 FF6 1 0 Tryz.results192 rfl rfl ⟨rfl,MM6.below⟩)
theorem ftimes_any (n x s:Nat)(hn:n<18446744073709551616)(hx:x<top4)(hs:s<top4)(w0:World) :
  Calls Tryz.prog 166 #[iW n,.agg #[iW (fw0 x),iW (fw1 x),iW (fw2 x),iW (fw3 x)],.agg #[iW (fw0 s),iW (fw1 s),iW (fw2 s),iW (fw3 s)]] w0 fun e w'=>e=.returned (.tuple #[.agg #[iW (fw0 (n*x+s)),iW (fw1 (n*x+s)),iW (fw2 (n*x+s)),iW (fw3 (n*x+s))],iW ((n*x+s)/top4)])∧Below w0.heap.size w0 w':=by
 refine eF Tryz.func166 rfl Tryz.ntmps166 (by simp) fun ac (FF:Fr 54 ac [(0,iW n),(1,aG #[iW (fw0 x),iW (fw1 x),iW (fw2 x),iW (fw3 x)]),(2,aG #[iW (fw0 s),iW (fw1 s),iW (fw2 s),iW (fw3 s)])])=>?_
 have MM:=MemS.start w0
 obtain⟨p0,p1,p2,p3,p4⟩:=times_words n x s hx
 have p4:=p4 hs
 obtain⟨c1,e1⟩:∃z,maHi n (fw0 x) (fw0 s) 0=z:=⟨_,rfl⟩
 rw [e1]at p1 p2 p3 p4
 have h1:c1<18446744073709551616:=e1▸maHi_lt hn (fw0_lt x) (fw0_lt s) (by decide)
 obtain⟨c2,e2⟩:∃z,maHi n (fw1 x) (fw1 s) c1=z:=⟨_,rfl⟩
 rw [e2]at p2 p3 p4
 have h2:c2<18446744073709551616:=e2▸maHi_lt hn (fw1_lt x) (fw1_lt s) h1
 obtain⟨c3,e3⟩:∃z,maHi n (fw2 x) (fw2 s) c2=z:=⟨_,rfl⟩
 rw [e3]at p3 p4
 have h3:c3<18446744073709551616:=e3▸maHi_lt hn (fw2_lt x) (fw2_lt s) h2
 obtain⟨c4,e4⟩:∃z,maHi n (fw3 x) (fw3 s) c3=z:=⟨_,rfl⟩
 rw [e4]at p4
 have h4:c4<18446744073709551616:=e4▸maHi_lt hn (fw3_lt x) (fw3_lt s) h3
 refine wp_seq (rg_c FF MM [] 8 [] [1,2] (fun bx=>fun bs_=>fun br=>fun _ _ FF1 MM1=>tN ?_))
 refine wp_seq (rg_c FF1 MM1 [] 9 [] [] (fun _ _ FF2 MM2=>tN ?_))
 refine wp_seq (rg_c FF2 MM2 [(2,l_ 2 (iW (fw0 x))),(1,l_ 1 (iW (fw0 s))),(0,t_ (.tuple #[iW c1,iW (fw0 (n*x+s))])),(5,s_ 1 (oC #[iW (fw0 (n*x+s)),iW (fw1 s),iW (fw2 s),iW (fw3 s)] 192))] 9 [] [] (⟨rfl,rfl,rfl,rfl,(cP en_fma (fun w=>by have h0:=fma_any n (fw0 x) (fw0 s) 0 hn (fw0_lt x) (fw0_lt s) (by decide) w;rw [e1,p0]at h0;exact h0) _),rfl,(by simp),(.inl rfl),rfl,fun _ _ FF3 MM3=>tN ?_⟩))
 refine wp_seq (rg_c FF3 MM3 [(2,l_ 2 (iW (fw1 x))),(1,l_ 1 (iW (fw1 s))),(1,t_ (.tuple #[iW c2,iW (fw1 (n*x+s))])),(5,s_ 1 (oC #[iW (fw0 (n*x+s)),iW (fw1 (n*x+s)),iW (fw2 s),iW (fw3 s)] 192))] 9 [] [] (⟨rfl,rfl,rfl,rfl,(cP en_fma (fun w=>by have h0:=fma_any n (fw1 x) (fw1 s) c1 hn (fw1_lt x) (fw1_lt s) h1 w;rw [e2,p1]at h0;exact h0) _),rfl,(by simp),(.inl rfl),rfl,fun _ _ FF4 MM4=>tN ?_⟩))
 refine wp_seq (rg_c FF4 MM4 [(2,l_ 2 (iW (fw2 x))),(1,l_ 1 (iW (fw2 s))),(1,t_ (.tuple #[iW c3,iW (fw2 (n*x+s))])),(5,s_ 1 (oC #[iW (fw0 (n*x+s)),iW (fw1 (n*x+s)),iW (fw2 (n*x+s)),iW (fw3 s)] 192))] 9 [] [] (⟨rfl,rfl,rfl,rfl,(cP en_fma (fun w=>by have h0:=fma_any n (fw2 x) (fw2 s) c2 hn (fw2_lt x) (fw2_lt s) h2 w;rw [e3,p2]at h0;exact h0) _),rfl,(by simp),(.inl rfl),rfl,fun _ _ FF5 MM5=>tN ?_⟩))
 refine wp_seq (rg_c FF5 MM5 [(2,l_ 2 (iW (fw3 x))),(1,l_ 1 (iW (fw3 s))),(1,t_ (.tuple #[iW c4,iW (fw3 (n*x+s))])),(5,s_ 1 (oC #[iW (fw0 (n*x+s)),iW (fw1 (n*x+s)),iW (fw2 (n*x+s)),iW (fw3 (n*x+s))] 192))] 9 [] [] (⟨rfl,rfl,rfl,rfl,(cP en_fma (fun w=>by have h0:=fma_any n (fw3 x) (fw3 s) c3 hn (fw3_lt x) (fw3_lt s) h3 w;rw [e4,p3]at h0;exact h0) _),rfl,(by simp),(.inl rfl),rfl,fun _ _ FF6 MM6=>tN ?_⟩))
 refine wp_seq (rg_c FF6 MM6 [(0,b_ 1),(1,b_ 0)] 9 [] [] (⟨rfl,rfl,rfl,rfl,rfl,(by kernel_rfl),rfl,fun _ _ FF7 MM7=>tN ?_⟩))
 refine wp_ret ?_
 repeat first | refine tR ?_ | refine iR ?_
 exact(ret_ct FF7 MM7 (k:=4) (i:=0) (j:=2) (m:=0) Tryz.results166 rfl rfl rfl Tryz.underlying192 rfl (by kernel_rfl) rfl ⟨by rw [p4],MM7.below⟩)
theorem fchoose_0 (x y:Nat)(w0:World) :
  Calls Tryz.prog 164 #[iW 0,.agg #[iW (fw0 x),iW (fw1 x),iW (fw2 x),iW (fw3 x)],.agg #[iW (fw0 y),iW (fw1 y),iW (fw2 y),iW (fw3 y)]] w0 fun e w'=>e=.returned (.agg #[iW (fw0 x),iW (fw1 x),iW (fw2 x),iW (fw3 x)])∧Below w0.heap.size w0 w':=by
 refine eF Tryz.func164 rfl Tryz.ntmps164 (by simp) fun ac (FF:Fr 52 ac [(0,iW 0),(1,aG #[iW (fw0 x),iW (fw1 x),iW (fw2 x),iW (fw3 x)]),(2,aG #[iW (fw0 y),iW (fw1 y),iW (fw2 y),iW (fw3 y)])])=>?_
 have MM:=MemS.start w0
 refine wp_seq (rg_c FF MM [] 7 [] [1,2] (fun bx=>fun by_=>fun br=>fun _ _ FF1 MM1=>tN ?_))
 refine wp_seq (rg_c FF1 MM1 [(1,l_ 2 (iW (fw0 x))),(2,l_ 2 (iW (fw0 x))),(1,l_ 1 (iW (fw0 y))),(1,t_ (iW 0)),(0,t_ (iW (fw0 x))),(1,s_ 2 (oC #[iW (fw0 x),iW (fw1 x),iW (fw2 x),iW (fw3 x)] 192))] 7 [] [] (⟨rfl,rfl,rfl,rfl,rfl,rfl,(fw0_lt x),(fw0_lt y),by decide,(xor_lt64 (fw0_lt x) (fw0_lt y)),(vI (Nat.zero_and _)),(fw0_lt x),by decide,(vI (Nat.xor_zero _)),rfl,(by simp),(.inl rfl),rfl,fun _ _ FF2 MM2=>tN ?_⟩))
 refine wp_seq (rg_c FF2 MM2 [(1,l_ 2 (iW (fw1 x))),(2,l_ 2 (iW (fw1 x))),(1,l_ 1 (iW (fw1 y))),(1,t_ (iW 0)),(0,t_ (iW (fw1 x))),(1,s_ 2 (oC #[iW (fw0 x),iW (fw1 x),iW (fw2 x),iW (fw3 x)] 192))] 7 [] [] (⟨rfl,rfl,rfl,rfl,rfl,rfl,(fw1_lt x),(fw1_lt y),by decide,(xor_lt64 (fw1_lt x) (fw1_lt y)),(vI (Nat.zero_and _)),(fw1_lt x),by decide,(vI (Nat.xor_zero _)),rfl,(by simp),(.inl rfl),rfl,fun _ _ FF3 MM3=>tN ?_⟩))
 refine wp_seq (rg_c FF3 MM3 [(1,l_ 2 (iW (fw2 x))),(2,l_ 2 (iW (fw2 x))),(1,l_ 1 (iW (fw2 y))),(1,t_ (iW 0)),(0,t_ (iW (fw2 x))),(1,s_ 2 (oC #[iW (fw0 x),iW (fw1 x),iW (fw2 x),iW (fw3 x)] 192))] 7 [] [] (⟨rfl,rfl,rfl,rfl,rfl,rfl,(fw2_lt x),(fw2_lt y),by decide,(xor_lt64 (fw2_lt x) (fw2_lt y)),(vI (Nat.zero_and _)),(fw2_lt x),by decide,(vI (Nat.xor_zero _)),rfl,(by simp),(.inl rfl),rfl,fun _ _ FF4 MM4=>tN ?_⟩))
 refine wp_seq (rg_c FF4 MM4 [(1,l_ 2 (iW (fw3 x))),(2,l_ 2 (iW (fw3 x))),(1,l_ 1 (iW (fw3 y))),(1,t_ (iW 0)),(0,t_ (iW (fw3 x))),(1,s_ 2 (oC #[iW (fw0 x),iW (fw1 x),iW (fw2 x),iW (fw3 x)] 192))] 7 [] [] (⟨rfl,rfl,rfl,rfl,rfl,rfl,(fw3_lt x),(fw3_lt y),by decide,(xor_lt64 (fw3_lt x) (fw3_lt y)),(vI (Nat.zero_and _)),(fw3_lt x),by decide,(vI (Nat.xor_zero _)),rfl,(by simp),(.inl rfl),rfl,fun _ _ FF5 MM5=>tN ?_⟩))
 refine wp_seq (rg_c FF5 MM5 [(0,b_ 2),(0,b_ 0)] 7 [] [] (⟨rfl,rfl,rfl,rfl,rfl,(by kernel_rfl),rfl,fun _ _ FF6 MM6=>tN ?_⟩))
 refine wp_ret ?_
 repeat first | refine tR ?_ | refine iR ?_
 exact(retc FF6 MM6 (k:=4) (i:=0) (j:=0) Tryz.results164 rfl rfl Tryz.underlying192 rfl (by kernel_rfl) rfl ⟨rfl,MM6.below⟩)
theorem fchoose_1 (x y:Nat)(w0:World) :
  Calls Tryz.prog 164 #[iW 18446744073709551615,.agg #[iW (fw0 x),iW (fw1 x),iW (fw2 x),iW (fw3 x)],.agg #[iW (fw0 y),iW (fw1 y),iW (fw2 y),iW (fw3 y)]] w0 fun e w'=>e=.returned (.agg #[iW (fw0 y),iW (fw1 y),iW (fw2 y),iW (fw3 y)])∧Below w0.heap.size w0 w':=by
 refine eF Tryz.func164 rfl Tryz.ntmps164 (by simp) fun ac (FF:Fr 52 ac [(0,iW 18446744073709551615),(1,aG #[iW (fw0 x),iW (fw1 x),iW (fw2 x),iW (fw3 x)]),(2,aG #[iW (fw0 y),iW (fw1 y),iW (fw2 y),iW (fw3 y)])])=>?_
 have MM:=MemS.start w0
 refine wp_seq (rg_c FF MM [] 7 [] [1,2] (fun bx=>fun by_=>fun br=>fun _ _ FF1 MM1=>tN ?_))
 refine wp_seq (rg_c FF1 MM1 [(1,l_ 2 (iW (fw0 x))),(2,l_ 2 (iW (fw0 x))),(1,l_ 1 (iW (fw0 y))),(1,t_ (iW (fw0 x ^^^ fw0 y))),(0,t_ (iW (fw0 y))),(1,s_ 2 (oC #[iW (fw0 y),iW (fw1 x),iW (fw2 x),iW (fw3 x)] 192))] 7 [] [] (⟨rfl,rfl,rfl,rfl,rfl,rfl,(fw0_lt x),(fw0_lt y),by decide,(xor_lt64 (fw0_lt x) (fw0_lt y)),(vI (and_all (xor_lt64 (fw0_lt x) (fw0_lt y)))),(fw0_lt x),(xor_lt64 (fw0_lt x) (fw0_lt y)),(vI (xor_back _ _)),rfl,(by simp),(.inl rfl),rfl,fun _ _ FF2 MM2=>tN ?_⟩))
 refine wp_seq (rg_c FF2 MM2 [(1,l_ 2 (iW (fw1 x))),(2,l_ 2 (iW (fw1 x))),(1,l_ 1 (iW (fw1 y))),(1,t_ (iW (fw1 x ^^^ fw1 y))),(0,t_ (iW (fw1 y))),(1,s_ 2 (oC #[iW (fw0 y),iW (fw1 y),iW (fw2 x),iW (fw3 x)] 192))] 7 [] [] (⟨rfl,rfl,rfl,rfl,rfl,rfl,(fw1_lt x),(fw1_lt y),by decide,(xor_lt64 (fw1_lt x) (fw1_lt y)),(vI (and_all (xor_lt64 (fw1_lt x) (fw1_lt y)))),(fw1_lt x),(xor_lt64 (fw1_lt x) (fw1_lt y)),(vI (xor_back _ _)),rfl,(by simp),(.inl rfl),rfl,fun _ _ FF3 MM3=>tN ?_⟩))
 refine wp_seq (rg_c FF3 MM3 [(1,l_ 2 (iW (fw2 x))),(2,l_ 2 (iW (fw2 x))),(1,l_ 1 (iW (fw2 y))),(1,t_ (iW (fw2 x ^^^ fw2 y))),(0,t_ (iW (fw2 y))),(1,s_ 2 (oC #[iW (fw0 y),iW (fw1 y),iW (fw2 y),iW (fw3 x)] 192))] 7 [] [] (⟨rfl,rfl,rfl,rfl,rfl,rfl,(fw2_lt x),(fw2_lt y),by decide,(xor_lt64 (fw2_lt x) (fw2_lt y)),(vI (and_all (xor_lt64 (fw2_lt x) (fw2_lt y)))),(fw2_lt x),(xor_lt64 (fw2_lt x) (fw2_lt y)),(vI (xor_back _ _)),rfl,(by simp),(.inl rfl),rfl,fun _ _ FF4 MM4=>tN ?_⟩))
 refine wp_seq (rg_c FF4 MM4 [(1,l_ 2 (iW (fw3 x))),(2,l_ 2 (iW (fw3 x))),(1,l_ 1 (iW (fw3 y))),(1,t_ (iW (fw3 x ^^^ fw3 y))),(0,t_ (iW (fw3 y))),(1,s_ 2 (oC #[iW (fw0 y),iW (fw1 y),iW (fw2 y),iW (fw3 y)] 192))] 7 [] [] (⟨rfl,rfl,rfl,rfl,rfl,rfl,(fw3_lt x),(fw3_lt y),by decide,(xor_lt64 (fw3_lt x) (fw3_lt y)),(vI (and_all (xor_lt64 (fw3_lt x) (fw3_lt y)))),(fw3_lt x),(xor_lt64 (fw3_lt x) (fw3_lt y)),(vI (xor_back _ _)),rfl,(by simp),(.inl rfl),rfl,fun _ _ FF5 MM5=>tN ?_⟩))
 refine wp_seq (rg_c FF5 MM5 [(0,b_ 2),(0,b_ 0)] 7 [] [] (⟨rfl,rfl,rfl,rfl,rfl,(by kernel_rfl),rfl,fun _ _ FF6 MM6=>tN ?_⟩))
 refine wp_ret ?_
 repeat first | refine tR ?_ | refine iR ?_
 exact(retc FF6 MM6 (k:=4) (i:=0) (j:=0) Tryz.results164 rfl rfl Tryz.underlying192 rfl (by kernel_rfl) rfl ⟨rfl,MM6.below⟩)
theorem andNot_top {a:Nat}(h:a<18446744073709551616):bits .andNot .u64 (a:Int) ((9223372036854775808:Nat):Int)=((a%9223372036854775808:Nat):Int):=by
 rw [u64_andNot_nat a _ h (by decide)]
 exact congrArg _ (Nat.and_two_pow_sub_one_eq_mod a 63)
theorem small_cells (n:Nat)(h:n<18446744073709551616):Value.agg #[iW n,iW 0,iW 0,iW 0]=.agg #[iW (fw0 n),iW (fw1 n),iW (fw2 n),iW (fw3 n)]:=by
 obtain⟨a,b,c,d⟩:=small_words n h
 rw [a,b,c,d]
theorem shift_cells (n:Nat)(h:n<2135987035920910082395021706169552114602704522356652769947041607822219725780640550022962086936576):Value.agg #[iW (fw1 n),iW (fw2 n),iW (fw3 n),iW (n/top4)]=.agg #[iW (fw0 (n/18446744073709551616)),iW (fw1 (n/18446744073709551616)),iW (fw2 (n/18446744073709551616)),iW (fw3 (n/18446744073709551616))]:=by
 obtain⟨a,b,c⟩:=shift_words n
 rw [a,b,c,shift_top n h]
theorem fw_mod (n:Nat):fw0 (n%top4)=fw0 n∧fw1 (n%top4)=fw1 n∧fw2 (n%top4)=fw2 n∧fw3 (n%top4)=fw3 n:=by
 unfold fw0 fw1 fw2 fw3 top4
 omega
theorem fsettle_any (x t:Nat)(hx:x<top4)(ht:t≤38)(w0:World) :
  Calls Tryz.prog 134 #[.agg #[iW (fw0 x),iW (fw1 x),iW (fw2 x),iW (fw3 x)],iW t] w0 fun e w'=>e=.returned (.agg #[iW (fw0 (red x t)),iW (fw1 (red x t)),iW (fw2 (red x t)),iW (fw3 (red x t))])∧Below w0.heap.size w0 w':=by
 refine eF Tryz.func134 rfl Tryz.ntmps134 (by simp) fun ac (FF:Fr 38 ac [(0,aG #[iW (fw0 x),iW (fw1 x),iW (fw2 x),iW (fw3 x)]),(1,iW t)])=>?_
 have MM:=MemS.start w0
 have hov:ov x t≤77:=ov_le ht
 obtain⟨k0,k1,k2,k3⟩:=cut_words x
 obtain⟨j0,j1,j2,j3⟩:=cut_words (mid x t+19)
 have hw3:=fw3_lt x
 refine wp_seq (rg_c FF MM [] 5 [] [0] (fun bx=>fun br=>fun _ _ FF1 MM1=>tN ?_))
 refine wp_seq (rg_c FF1 MM1 [(1,t_ (iW (t*2))),(1,l_ 1 (iW (fw3 x))),(0,t_ (iW ((fw3 x)/9223372036854775808))),(0,t_ (iW (ov x t)))] 6 [] [1] (⟨(vI (Nat.mod_eq_of_lt (by omega))),rfl,rfl,by decide,rfl,by omega,by omega,(vI ((Nat.or_comm _ _).trans ((or_shl 1 (by omega)).trans (by unfold ov;omega)))),fun _ _ FF2 MM2=>tN ?_⟩))
 refine wp_seq (rg_c FF2 MM2 [(1,l_ 1 (iW (fw3 x))),(0,f_ (iW (fw3 x%9223372036854775808))),(1,s_ 1 (oC #[iW (fw0 x),iW (fw1 x),iW (fw2 x),iW (fw3 x%9223372036854775808)] 192))] 6 [] [] (⟨rfl,rfl,(andNot_ok (t:=22) (t':=22) (x:=(.tmp 15)) (y:=(.const (iW 9223372036854775808))) (k:=.u64) (a:=fw3 x) (b:=9223372036854775808) (r:=fw3 x%9223372036854775808) (by kernel_rfl) rfl rfl (andNot_top (fw3_lt x))),rfl,(by simp),(.inl rfl),rfl,fun _ _ FF3 MM3=>tN ?_⟩))
 have MMr9:MemS _ _ _ [_,(bx,oC #[iW (fw0 (x%b255)),iW (fw1 (x%b255)),iW (fw2 (x%b255)),iW (fw3 (x%b255))] 192)] _:=MM3.eqA 1 rfl (by rw [k0,k1,k2,k3] <;> rfl)
 refine wp_seq (rg_c FF3 MMr9 [(0,b_ 1),(1,w_ 1),(0,t_ (aG #[iW (fw0 (19*ov x t)),iW (fw1 (19*ov x t)),iW (fw2 (19*ov x t)),iW (fw3 (19*ov x t))])),(0,t_ (aG #[iW (fw0 (mid x t)),iW (fw1 (mid x t)),iW (fw2 (mid x t)),iW (fw3 (mid x t))])),(0,b_ 1)] 5 [] [] (⟨rfl,rfl,by omega,(Eq.trans (show _=some (#[iW (19*(ov x t)),iW 0,iW 0,iW 0]:Array Value)by kernel_rfl) (congrArg some (Value.agg.inj (small_cells _ (by omega))))),(cP en_fplus (fplus_any (x%b255) (19*ov x t)) _),rfl,rfl,rfl,(by kernel_rfl),rfl,fun _ _ FF4 MM4=>tN ?_⟩))
 refine wp_seq (rg_c FF4 MM4 [(0,b_ 1),(0,t_ (aG #[iW (fw0 19),iW (fw1 19),iW (fw2 19),iW (fw3 19)])),(0,t_ (aG #[iW (fw0 (mid x t+19)),iW (fw1 (mid x t+19)),iW (fw2 (mid x t+19)),iW (fw3 (mid x t+19))])),(1,b_ 0)] 7 [] [] (⟨rfl,rfl,(Eq.trans (show _=some (#[iW 19,iW 0,iW 0,iW 0]:Array Value)by kernel_rfl) (congrArg some (Value.agg.inj (small_cells 19 (by decide))))),(cP en_fplus (fplus_any (mid x t) 19) _),fun bl=>⟨rfl,rfl,rfl,(by kernel_rfl),rfl,fun _ _ FF5 MM5=>tN ?_⟩⟩))
 refine wp_seq (rg_c FF5 MM5 [(1,l_ 0 (iW (fw3 (mid x t+19)))),(0,t_ (iW ((fw3 (mid x t+19))/9223372036854775808)))] 8 [] [] (⟨rfl,rfl,by decide,rfl,fun _ _ FF6 MM6=>tN ?_⟩))
 refine wp_seq (rg_c FF6 MM6 [(1,l_ 0 (iW (fw3 (mid x t+19)))),(0,f_ (iW (fw3 (mid x t+19)%9223372036854775808))),(1,s_ 0 (oC #[iW (fw0 (mid x t+19)),iW (fw1 (mid x t+19)),iW (fw2 (mid x t+19)),iW (fw3 (mid x t+19)%9223372036854775808)] 192))] 8 [] [] (⟨rfl,rfl,(andNot_ok (t:=22) (t':=22) (x:=(.tmp 30)) (y:=(.const (iW 9223372036854775808))) (k:=.u64) (a:=fw3 (mid x t+19)) (b:=9223372036854775808) (r:=fw3 (mid x t+19)%9223372036854775808) (by kernel_rfl) rfl rfl (andNot_top (fw3_lt (mid x t+19)))),rfl,(by simp),(.inl rfl),rfl,fun _ _ FF7 MM7=>tN ?_⟩))
 have MMr14:MemS _ _ _ [(bl,oC #[iW (fw0 ((mid x t+19)%b255)),iW (fw1 ((mid x t+19)%b255)),iW (fw2 ((mid x t+19)%b255)),iW (fw3 ((mid x t+19)%b255))] 192),_,_] _:=MM7.eqA 0 rfl (by rw [j0,j1,j2,j3] <;> rfl)
 by_cases hp:fw3 (mid x t+19)/9223372036854775808=0
 ·skip
  refine wp_seq (rg_c FF7 MMr14 [(1,t_ (iW 0)),(0,b_ 2),(0,b_ 0),(0,t_ (aG #[iW (fw0 (mid x t)),iW (fw1 (mid x t)),iW (fw2 (mid x t)),iW (fw3 (mid x t))])),(0,b_ 1)] 7 [] [] (⟨(by have:=fw3_lt (mid x t+19);omega),(vI (by omega)),rfl,rfl,rfl,rfl,(cP en_fchoose (fchoose_0 (mid x t) ((mid x t+19)%b255)) _),rfl,rfl,rfl,(by kernel_rfl),rfl,fun _ _ FF8 MM8=>tN ?_⟩))
  refine wp_ret ?_
  repeat first | refine tR ?_ | refine iR ?_
  exact(retc FF8 MM8 (k:=4) (i:=1) (j:=1) Tryz.results134 rfl rfl Tryz.underlying192 rfl (by kernel_rfl) rfl ⟨by rw [settle_lo hx ht hp],MM8.below⟩)
 ·skip
  obtain⟨s1,s2⟩:=settle_hi hx ht hp
  refine wp_seq (rg_c FF7 MMr14 [(1,t_ (iW 18446744073709551615)),(0,b_ 2),(0,b_ 0),(0,t_ (aG #[iW (fw0 ((mid x t+19)%b255)),iW (fw1 ((mid x t+19)%b255)),iW (fw2 ((mid x t+19)%b255)),iW (fw3 ((mid x t+19)%b255))])),(0,b_ 1)] 7 [] [] (⟨(by have:=fw3_lt (mid x t+19);omega),(vI (by omega)),rfl,rfl,rfl,rfl,(cP en_fchoose (fchoose_1 (mid x t) ((mid x t+19)%b255)) _),rfl,rfl,rfl,(by kernel_rfl),rfl,fun _ _ FF9 MM9=>tN ?_⟩))
  refine wp_ret ?_
  repeat first | refine tR ?_ | refine iR ?_
  exact(retc FF9 MM9 (k:=4) (i:=1) (j:=1) Tryz.results134 rfl rfl Tryz.underlying192 rfl (by kernel_rfl) rfl ⟨by rw [s1],MM9.below⟩)
set_option maxHeartbeats 1000000 in
theorem fprod_any (x y:Nat)(hx:x<top4)(hy:y<top4)(w0:World) :
  Calls Tryz.prog 138 #[.agg #[iW (fw0 x),iW (fw1 x),iW (fw2 x),iW (fw3 x)],.agg #[iW (fw0 y),iW (fw1 y),iW (fw2 y),iW (fw3 y)]] w0 fun e w'=>e=.returned (.agg #[iW (fw0 (x*y%pN)),iW (fw1 (x*y%pN)),iW (fw2 (x*y%pN)),iW (fw3 (x*y%pN))])∧Below w0.heap.size w0 w':=by
 refine eF Tryz.func138 rfl Tryz.ntmps138 (by simp) fun ac (FF:Fr 86 ac [(0,aG #[iW (fw0 x),iW (fw1 x),iW (fw2 x),iW (fw3 x)]),(1,aG #[iW (fw0 y),iW (fw1 y),iW (fw2 y),iW (fw3 y)])])=>?_
 have MM:=MemS.start w0
 obtain⟨b1,b2,b3,b4⟩:=S_lt x hy
 obtain⟨g1,g2,g3,g4⟩:=S_small x hy
 obtain⟨r1,r2⟩:=prod_red x y hx hy
 have q:fw0 (lowN x y)=fw0 (S1 x y)∧fw1 (lowN x y)=fw0 (S2 x y)∧fw2 (lowN x y)=fw0 (S3 x y)∧fw3 (lowN x y)=fw0 (S4 x y):=w_mk4 (fw0_lt _) (fw0_lt _) (fw0_lt _) (fw0_lt _)
 obtain⟨q0,q1,q2,q3⟩:=q
 refine wp_seq (rg_c FF MM [] 5 [] [0,1] (fun bx=>fun by_=>fun br=>fun _ _ FF1 MM1=>tN ?_))
 refine wp_seq (rg_c FF1 MM1 [] 6 [] [] (fun bo=>fun _ _ FF2 MM2=>tN ?_))
 refine wp_seq (rg_c FF2 MM2 [(1,l_ 3 (iW (fw0 x))),(0,b_ 2),(0,t_ (aG #[iW (fw0 0),iW (fw1 0),iW (fw2 0),iW (fw3 0)])),(0,t_ (.tuple #[aG #[iW (fw0 (S1 x y)),iW (fw1 (S1 x y)),iW (fw2 (S1 x y)),iW (fw3 (S1 x y))],iW (S1 x y/top4)])),(4,b_ 0)] 8 [] [] (⟨rfl,rfl,rfl,rfl,(Eq.trans (show _=some (#[iW 0,iW 0,iW 0,iW 0]:Array Value)by kernel_rfl) (congrArg some (Value.agg.inj (small_cells 0 (by decide))))),(cP en_ftimes (ftimes_any (fw0 x) y 0 (fw0_lt x) hy (by decide)) _),fun bs_=>⟨rfl,rfl,rfl,(by kernel_rfl),rfl,fun _ _ FF3 MM3=>tN ?_⟩⟩))
 refine wp_seq (rg_c FF3 MM3 [(1,l_ 0 (iW (fw0 (S1 x y)))),(1,s_ 1 (oC #[iW (fw0 (S1 x y)),iW 0,iW 0,iW 0] 192))] 8 [] [] (⟨rfl,rfl,rfl,(by simp),(.inl rfl),rfl,fun _ _ FF4 MM4=>tN ?_⟩))
 refine wp_seq (rg_c FF4 MM4 [(1,l_ 4 (iW (fw1 x))),(0,b_ 3),(1,l_ 0 (iW (fw1 (S1 x y)))),(1,l_ 0 (iW (fw2 (S1 x y)))),(1,l_ 0 (iW (fw3 (S1 x y)))),(1,t_ (aG #[iW (fw0 (S1 x y/18446744073709551616)),iW (fw1 (S1 x y/18446744073709551616)),iW (fw2 (S1 x y/18446744073709551616)),iW (fw3 (S1 x y/18446744073709551616))])),(0,t_ (.tuple #[aG #[iW (fw0 (S2 x y)),iW (fw1 (S2 x y)),iW (fw2 (S2 x y)),iW (fw3 (S2 x y))],iW (S2 x y/top4)])),(3,b_ 0)] 8 [] [] (⟨rfl,rfl,rfl,rfl,rfl,rfl,rfl,rfl,rfl,rfl,(Eq.trans (show _=some (#[iW (fw1 (S1 x y)),iW (fw2 (S1 x y)),iW (fw3 (S1 x y)),iW (S1 x y/top4)]:Array Value)by kernel_rfl) (congrArg some (Value.agg.inj (shift_cells _ g1)))),(cP en_ftimes (ftimes_any (fw1 x) y (S1 x y/18446744073709551616) (fw1_lt x) hy b1) _),rfl,rfl,rfl,(by kernel_rfl),rfl,fun _ _ FF5 MM5=>tN ?_⟩))
 refine wp_seq (rg_c FF5 MM5 [(1,l_ 0 (iW (fw0 (S2 x y)))),(1,s_ 1 (oC #[iW (fw0 (S1 x y)),iW (fw0 (S2 x y)),iW 0,iW 0] 192))] 8 [] [] (⟨rfl,rfl,rfl,(by simp),(.inl rfl),rfl,fun _ _ FF6 MM6=>tN ?_⟩))
 refine wp_seq (rg_c FF6 MM6 [(1,l_ 4 (iW (fw2 x))),(0,b_ 3),(1,l_ 0 (iW (fw1 (S2 x y)))),(1,l_ 0 (iW (fw2 (S2 x y)))),(1,l_ 0 (iW (fw3 (S2 x y)))),(1,t_ (aG #[iW (fw0 (S2 x y/18446744073709551616)),iW (fw1 (S2 x y/18446744073709551616)),iW (fw2 (S2 x y/18446744073709551616)),iW (fw3 (S2 x y/18446744073709551616))])),(0,t_ (.tuple #[aG #[iW (fw0 (S3 x y)),iW (fw1 (S3 x y)),iW (fw2 (S3 x y)),iW (fw3 (S3 x y))],iW (S3 x y/top4)])),(3,b_ 0)] 8 [] [] (⟨rfl,rfl,rfl,rfl,rfl,rfl,rfl,rfl,rfl,rfl,(Eq.trans (show _=some (#[iW (fw1 (S2 x y)),iW (fw2 (S2 x y)),iW (fw3 (S2 x y)),iW (S2 x y/top4)]:Array Value)by kernel_rfl) (congrArg some (Value.agg.inj (shift_cells _ g2)))),(cP en_ftimes (ftimes_any (fw2 x) y (S2 x y/18446744073709551616) (fw2_lt x) hy b2) _),rfl,rfl,rfl,(by kernel_rfl),rfl,fun _ _ FF7 MM7=>tN ?_⟩))
 refine wp_seq (rg_c FF7 MM7 [(1,l_ 0 (iW (fw0 (S3 x y)))),(1,s_ 1 (oC #[iW (fw0 (S1 x y)),iW (fw0 (S2 x y)),iW (fw0 (S3 x y)),iW 0] 192))] 8 [] [] (⟨rfl,rfl,rfl,(by simp),(.inl rfl),rfl,fun _ _ FF8 MM8=>tN ?_⟩))
 refine wp_seq (rg_c FF8 MM8 [(1,l_ 4 (iW (fw3 x))),(0,b_ 3),(1,l_ 0 (iW (fw1 (S3 x y)))),(1,l_ 0 (iW (fw2 (S3 x y)))),(1,l_ 0 (iW (fw3 (S3 x y)))),(1,t_ (aG #[iW (fw0 (S3 x y/18446744073709551616)),iW (fw1 (S3 x y/18446744073709551616)),iW (fw2 (S3 x y/18446744073709551616)),iW (fw3 (S3 x y/18446744073709551616))])),(0,t_ (.tuple #[aG #[iW (fw0 (S4 x y)),iW (fw1 (S4 x y)),iW (fw2 (S4 x y)),iW (fw3 (S4 x y))],iW (S4 x y/top4)])),(3,b_ 0)] 8 [] [] (⟨rfl,rfl,rfl,rfl,rfl,rfl,rfl,rfl,rfl,rfl,(Eq.trans (show _=some (#[iW (fw1 (S3 x y)),iW (fw2 (S3 x y)),iW (fw3 (S3 x y)),iW (S3 x y/top4)]:Array Value)by kernel_rfl) (congrArg some (Value.agg.inj (shift_cells _ g3)))),(cP en_ftimes (ftimes_any (fw3 x) y (S3 x y/18446744073709551616) (fw3_lt x) hy b3) _),rfl,rfl,rfl,(by kernel_rfl),rfl,fun _ _ FF9 MM9=>tN ?_⟩))
 refine wp_seq (rg_c FF9 MM9 [(1,l_ 0 (iW (fw0 (S4 x y)))),(1,s_ 1 (oC #[iW (fw0 (S1 x y)),iW (fw0 (S2 x y)),iW (fw0 (S3 x y)),iW (fw0 (S4 x y))] 192))] 8 [] [] (⟨rfl,rfl,rfl,(by simp),(.inl rfl),rfl,fun _ _ FF10 MM10=>tN ?_⟩))
 have MMr17:MemS _ _ _ [_,(bo,oC #[iW (fw0 (lowN x y)),iW (fw1 (lowN x y)),iW (fw2 (lowN x y)),iW (fw3 (lowN x y))] 192),_,_,_] _:=MM10.eqA 1 rfl (by rw [q0,q1,q2,q3] <;> rfl)
 obtain⟨m0,m1,m2,m3⟩:=fw_mod (38*(S4 x y/18446744073709551616)+lowN x y)
 refine wp_seq (rg_c FF10 MMr17 [(1,l_ 0 (iW (fw1 (S4 x y)))),(1,l_ 0 (iW (fw2 (S4 x y)))),(1,l_ 0 (iW (fw3 (S4 x y)))),(1,t_ (aG #[iW (fw0 (S4 x y/18446744073709551616)),iW (fw1 (S4 x y/18446744073709551616)),iW (fw2 (S4 x y/18446744073709551616)),iW (fw3 (S4 x y/18446744073709551616))])),(0,b_ 1),(0,t_ (.tuple #[aG #[iW (fw0 ((38*(S4 x y/18446744073709551616)+lowN x y)%top4)),iW (fw1 ((38*(S4 x y/18446744073709551616)+lowN x y)%top4)),iW (fw2 ((38*(S4 x y/18446744073709551616)+lowN x y)%top4)),iW (fw3 ((38*(S4 x y/18446744073709551616)+lowN x y)%top4))],iW ((38*(S4 x y/18446744073709551616)+lowN x y)/top4)])),(2,t_ (aG #[iW (fw0 (x*y%pN)),iW (fw1 (x*y%pN)),iW (fw2 (x*y%pN)),iW (fw3 (x*y%pN))])),(0,b_ 2)] 8 [] [] (⟨rfl,rfl,rfl,rfl,rfl,rfl,(Eq.trans (show _=some (#[iW (fw1 (S4 x y)),iW (fw2 (S4 x y)),iW (fw3 (S4 x y)),iW (S4 x y/top4)]:Array Value)by kernel_rfl) (congrArg some (Value.agg.inj (shift_cells _ g4)))),rfl,rfl,(cP en_ftimes (fun w=>by have h0:=ftimes_any 38 (S4 x y/18446744073709551616) (lowN x y) (by decide) b4 (lowN_lt x y) w;rw [←m0,←m1,←m2,←m3]at h0;exact h0) _),(cP en_fsettle (fun w=>by have h0:=fsettle_any ((38*(S4 x y/18446744073709551616)+lowN x y)%top4) ((38*(S4 x y/18446744073709551616)+lowN x y)/top4) (Nat.mod_lt _ (by decide)) r1 w;rw [r2]at h0;exact h0) _),rfl,rfl,rfl,(by kernel_rfl),rfl,fun _ _ FF11 MM11=>tN ?_⟩))
 refine wp_ret ?_
 repeat first | refine tR ?_ | refine iR ?_
 exact(retc FF11 MM11 (k:=4) (i:=2) (j:=3) Tryz.results138 rfl rfl Tryz.underlying192 rfl (by kernel_rfl) rfl ⟨rfl,MM11.below⟩)
end Go.Proofs.YtdokjecjiifciaaGreatDoor
