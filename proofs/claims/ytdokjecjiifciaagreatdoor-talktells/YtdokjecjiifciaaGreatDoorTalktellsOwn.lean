/- TalkTells, for every secret, every other one's key, every root, every round and every tape of at most 200 bytes: what both have in common, or that it is weak, the root's name in that round, what is idly said and what is taken from the tape are what the document says: the law returns true, and nothing that was there has turned. Condition: the table of package sha holds what the text of the program lays there (tied). -/
import Derived.Test.YtdokjecjiifciaaGreatDoorZ11
import Derived.Test.YtdokjecjiifciaaGreatDoorZ3
import Derived.SliceStrings
import Derived.Test.YtdokjecjiifciaaGreatDoorCards
import Derived.Test.YtdokjecjiifciaaGreatDoorTie
import Derived.ChangeMaps5
import Derived.SevenTiedAt
import Derived.SizedLaws
namespace Go.Proofs.YtdokjecjiifciaaGreatDoor
open Go.ChangeShapes Go.WideShapes Go.ChangeAt Go.RowKit
theorem talktells_door (os:Os)(args:Array Value):laidMetH Tryz.prog [("billet/sha.constants",Rows.laid_billet_sha_constants)] ((World.doorLaid Tryz.prog 400 os).forCall (fun _ _=>0) ⟨#[],args,[]⟩).memory:=
  laidMetH_of_parts3 (fuel:=8) (laidMet_of_run' 8 (by kernel_rfl) (by kernel_rfl)) (by kernel_rfl) (by kernel_rfl)
theorem suf_cons {cp A R:Array Value}{off m:Nat}(hm:A.size=m)(h:PartAt cp off A)(r:∀j,cp[off+m+j]? = R[j]?):∀j,cp[off+j]? = (A++R)[j]?:=fun j=>by
  subst hm
  rcases Nat.lt_or_ge j A.size with hj | hj
  · rw [Array.getElem?_append_left hj,Array.getElem?_eq_getElem hj];exact h j _ (Array.getElem?_eq_getElem hj)
  · rw [Array.getElem?_append_right hj,←r (j-A.size),show off+A.size+(j-A.size)=off+j by omega]
theorem suf_two {cp:Array Value}{n:Nat}{a b:Value}(hs:cp.size=n+2)(h0:cp[n]? = some a)(h1:cp[n+1]? = some b):∀j,cp[n+j]? = (#[a,b]:Array Value)[j]?:=fun j=>match j with
  | 0=>h0
  | 1=>h1
  | j+2=>by rw [Array.getElem?_eq_none (by omega),Array.getElem?_eq_none (by simp)]
theorem suf_all {cp R:Array Value}(h:∀j,cp[0+j]? = R[j]?):cp=R:=Array.ext_getElem? fun j=>by rw [←h j,Nat.zero_add]
set_option maxRecDepth 10000 in
theorem tells_open {H:Type}{enc:TypeId×Value→H}{W:World}{r:Reach}{base base':Nat}{spare:Nat→Bool}{held:Bool}{v:Value}{d:DataW H}{p:List MemPlace}(hv:Value.okWide Tryz.prog W r base 85 v)(h:DataW.Trod enc Tryz.prog W base' spare held 85 v d p) :
    ∃(cp:Array Value) (A:List Nat) (B:List Nat) (R:List Nat) (r:Nat) (T:List Nat),v=.agg cp∧Bytes 32 A∧PartAt cp 0 (cn .u8 A)∧Bytes 32 B∧PartAt cp 32 (cn .u8 B)∧Bytes 32 R∧PartAt cp 64 (cn .u8 R)∧r<18446744073709551616∧cp[96]? = some (.int .u64 (r:Nat))∧(∀i,T.getD i 0<256)∧cp[97]? = some (.string (bs T))∧T.length≤maxLen∧cp.size=98:=by
  have hv':∃cs,v=.agg cs∧cs.size=98:=by
    simp only [Value.okWide,Tryz.underlying85]at hv
    obtain⟨cs,h1,h2,_⟩:=hv
    exact⟨cs,h1,h2.trans (by kernel_rfl)⟩
  obtain⟨cs,rfl,hsz⟩:=hv'
  obtain⟨fuel,hf⟩:=h
  obtain⟨xs,m,_,_,hl,hlen,hel⟩:=DataW.trod_struct Tryz.underlying85 hf
  have hx:xs.length=5:=hlen
  have g:∀i,i<5→xs[i]? = some (xs[i]?.getD (.agg [],[])):=fun i hi=>by simp [hx,hi]
  have e0:DataW.trod enc Tryz.prog W base' spare held m 52 (List.take (Tryz.prog.cellsOf 52) (List.drop 0 (Value.agg cs).cells.toList))=xs[0]?:=hel 0 _ rfl
  rw [show Tryz.prog.cellsOf 52=32 by kernel_rfl,g 0 (by omega)]at e0
  obtain⟨A,b0,p0⟩:=bytes_in Tryz.underlying52 Tryz.underlying5 (by kernel_rfl) e0
  have e1:DataW.trod enc Tryz.prog W base' spare held m 52 (List.take (Tryz.prog.cellsOf 52) (List.drop 32 (Value.agg cs).cells.toList))=xs[1]?:=hel 1 _ rfl
  rw [show Tryz.prog.cellsOf 52=32 by kernel_rfl,g 1 (by omega)]at e1
  obtain⟨B,b1,p1⟩:=bytes_in Tryz.underlying52 Tryz.underlying5 (by kernel_rfl) e1
  have e2:DataW.trod enc Tryz.prog W base' spare held m 52 (List.take (Tryz.prog.cellsOf 52) (List.drop 64 (Value.agg cs).cells.toList))=xs[2]?:=hel 2 _ rfl
  rw [show Tryz.prog.cellsOf 52=32 by kernel_rfl,g 2 (by omega)]at e2
  obtain⟨R,b2,p2⟩:=bytes_in Tryz.underlying52 Tryz.underlying5 (by kernel_rfl) e2
  have e3:DataW.trod enc Tryz.prog W base' spare held m 22 (List.take (Tryz.prog.cellsOf 22) (List.drop 96 (Value.agg cs).cells.toList))=xs[3]?:=hel 3 _ rfl
  rw [show Tryz.prog.cellsOf 22=1 by kernel_rfl,g 3 (by omega)]at e3
  obtain⟨z3,q3,_,w3⟩:=DataW.trod_int Tryz.underlying22 e3
  have bb3:=bounds_u64 w3
  obtain⟨r,rfl⟩:=Int.eq_ofNat_of_zero_le bb3.1
  have e4:DataW.trod enc Tryz.prog W base' spare held m 9 (List.take (Tryz.prog.cellsOf 9) (List.drop 97 (Value.agg cs).cells.toList))=xs[4]?:=hel 4 _ rfl
  rw [show Tryz.prog.cellsOf 9=1 by kernel_rfl,g 4 (by omega)]at e4
  obtain⟨s4,q4,_,m4⟩:=DataW.trod_string Tryz.underlying9 e4
  exact⟨cs,A,B,R,r,nl s4,rfl,b0,part_in p0,b1,part_in p1,b2,part_in p2,(by have:=bb3.2;omega),(by have h3:=congrArg (fun l=>l[0]?) q3;simpa [Value.cells]using h3),nl_lt s4,(by rw [bs_nl];have h3:=congrArg (fun l=>l[0]?) q4;simpa [Value.cells]using h3),(by rw [nl_len];exact m4),hsz⟩
set_option maxRecDepth 100000 in
theorem talktells_lifted (os:Os)(started:os.Started)(H:Type)(enc:TypeId×Value→H) :
    ReturnsInHanded {} Tryz.checked os 7 .any (fun w args=>(Rows.talkTellsSpec.pre enc Tryz.prog Tryz.f7 [] false w args∧laidMetH Tryz.prog [("billet/sha.constants",Rows.laid_billet_sha_constants)] w)∧sizedMet enc Tryz.prog Tryz.f7 (OpenSpec.ofChange Rows.talkTellsSpec) false w args) (Rows.talkTellsSpec.post enc Tryz.prog Tryz.f7 false true false false):=by
  refine returnsInHanded_of_change_and (C:=Tryz.checked) (X:=fun w _=>laidMetH Tryz.prog [("billet/sha.constants",Rows.laid_billet_sha_constants)] w) (fun _ _ _ hh h=>h.of_heap hh) Tryz.own started (by kernel_rfl) Tryz.func7
    (ChangeSpec.witness_shaped (enc:=enc) (C:=Tryz.checked) (os:=os) (X:=fun w _=>laidMetH Tryz.prog [("billet/sha.constants",Rows.laid_billet_sha_constants)] w) false (World.doorLaid Tryz.prog 400 os) #[.agg #[.int .u8 0,.int .u8 0,.int .u8 0,.int .u8 0,.int .u8 0,.int .u8 0,.int .u8 0,.int .u8 0,.int .u8 0,.int .u8 0,.int .u8 0,.int .u8 0,.int .u8 0,.int .u8 0,.int .u8 0,.int .u8 0,.int .u8 0,.int .u8 0,.int .u8 0,.int .u8 0,.int .u8 0,.int .u8 0,.int .u8 0,.int .u8 0,.int .u8 0,.int .u8 0,.int .u8 0,.int .u8 0,.int .u8 0,.int .u8 0,.int .u8 0,.int .u8 0,.int .u8 0,.int .u8 0,.int .u8 0,.int .u8 0,.int .u8 0,.int .u8 0,.int .u8 0,.int .u8 0,.int .u8 0,.int .u8 0,.int .u8 0,.int .u8 0,.int .u8 0,.int .u8 0,.int .u8 0,.int .u8 0,.int .u8 0,.int .u8 0,.int .u8 0,.int .u8 0,.int .u8 0,.int .u8 0,.int .u8 0,.int .u8 0,.int .u8 0,.int .u8 0,.int .u8 0,.int .u8 0,.int .u8 0,.int .u8 0,.int .u8 0,.int .u8 0,.int .u8 0,.int .u8 0,.int .u8 0,.int .u8 0,.int .u8 0,.int .u8 0,.int .u8 0,.int .u8 0,.int .u8 0,.int .u8 0,.int .u8 0,.int .u8 0,.int .u8 0,.int .u8 0,.int .u8 0,.int .u8 0,.int .u8 0,.int .u8 0,.int .u8 0,.int .u8 0,.int .u8 0,.int .u8 0,.int .u8 0,.int .u8 0,.int .u8 0,.int .u8 0,.int .u8 0,.int .u8 0,.int .u8 0,.int .u8 0,.int .u8 0,.int .u8 0,.int .u64 0,.string (bs [])]] 8 rfl (World.shaped_of_RefB (by kernel_rfl) (by kernel_rfl)) (by kernel_rfl) (by kernel_rfl) (by kernel_rfl) (talktells_door os _)) ?_
  intro W base args ds gs before hval0 hW _ hsz0 hL _
  have hval:∀(j:Nat) t v,Tryz.f7.params[j]? = some t→args[j]? = some v→Value.okWide Tryz.prog W .any base t v:=hval0
  have hW':=hW
  obtain⟨p,q,hA0,hV,rfl,hfz,hnd⟩:=hW
  have hA:DataW.TrodAll enc Tryz.prog W 0 (fun _=>true) true Tryz.f7.params.toList args.toList ds p:=hA0
  have hsz:(DataW.weightsEach Tryz.prog (Tryz.f7.params.toList++Rows.talkTellsSpec.plain.varTypes Tryz.prog) (ds++gs)).all (·≤reachBytes)=true:=hsz0
  rw [Tryz.params7]at hA hval hsz
  obtain⟨v0,d0,rfl,rfl,h0_⟩:=trodAll_one hA
  obtain⟨rfl,rfl⟩:=trodVars_none hV
  obtain⟨Tg,fg,hg⟩:=tab_of hL (by kernel_rfl) (List.mem_singleton.2 rfl) (g:=0) (t:=267) (e:=126) (K:=kTab) (by kernel_rfl) (by kernel_rfl) Tryz.underlying267 Tryz.underlying126 (by kernel_rfl) (by kernel_rfl) (by kernel_rfl) (by kernel_rfl)
  obtain⟨cp,A,B,R,r,T,rfl,hKa,c0,hKb,c1,hKr,c2,hr,c3,hT,c4,_,cs_⟩:=tells_open (hval 0 85 v0 rfl rfl) h0_
  obtain rfl:=suf_all (suf_cons ((cZ _ _).trans hKa.len) c0 (suf_cons ((cZ _ _).trans hKb.len) c1 (suf_cons ((cZ _ _).trans hKr.len) c2 (suf_two cs_ c3 c4))))
  refine(tells_any Tg fg A B R T r ⟨hKa.len,hKa.lt⟩ ⟨hKb.len,hKb.lt⟩ ⟨hKr.len,hKr.lt⟩ hr hT W hg).mono fun e W' ⟨he,hb⟩=>?_
  subst he
  exact⟨_,rfl,post_true Tryz.laidOut (by rw [Tryz.params7];decide +kernel) rfl hW' rfl rfl rfl rfl Tryz.underlying4 hb⟩
theorem talktells_row:Rows.TalkTellsSaid:=
  OpenClaim.holds_of_wide 7 Tryz.f7 rfl rfl rfl rfl rfl rfl rfl ⟨rfl,rfl,rfl,rfl,rfl⟩ rfl rfl rfl rfl rfl (by kernel_rfl) Tryz.func7 (by kernel_rfl)
    (of_decide_eq_true (by kernel_rfl)) (by unfold Func.isWrapper;first | (rw [if_pos (by decide +kernel)];kernel_rfl) | (rw [if_neg (by decide +kernel)];exact⟨rfl,rfl⟩))
    (fun os started H enc _=>talktells_lifted os started H enc)
theorem talkTells_holds:Rows.TalkTellsCardSaid:=
  Claim7.holds_tied_plain_at .later [] [.data] true (true, "cc4bd13199b7485855dfc63e35c0326996c1684054b3524eeff00514d9f7fd76") false
    talktells_row (fun _ h=>by cases h) (by kernel_rfl) (fun _ h=>by cases h) talkTells_row_tie rfl ⟨rfl,rfl⟩ (by kernel_rfl) rfl
    (fun f fn hf hfn=>by
      obtain rfl:f=7:=Option.some.inj ((show Tryz.prog.funcNamed "billet/billetlaw16.TalkTells" = some 7 by kernel_rfl).symm.trans hf) |>.symm
      obtain rfl:fn=Tryz.f7:=(Option.some.inj (Tryz.func7.symm.trans hfn)).symm
      exact⟨by kernel_rfl,fun j t ht=>by
        rw [Tryz.params7]at ht
        have hm:t∈[85]:=by simpa using Array.mem_of_getElem? ht
        have hall:([85].all fun u=>!Tryz.prog.wantsStandIn u)=true:=by kernel_rfl
        exact(show Tryz.prog.wantsStandIn t=false by simpa using List.all_eq_true.1 hall t hm)⟩)
    (by kernel_rfl)
#print axioms talkTells_holds
end Go.Proofs.YtdokjecjiifciaaGreatDoor
