import Derived.Test.YtdokjecjiifciaaGreatDoorZ1
import Derived.Deep.AppendLies
namespace Go.Proofs.YtdokjecjiifciaaGreatDoor
open Go.RowKit
def upAt (us:List (Nat×Obj))(i:Nat)(x:Nat×Obj):Nat×Obj:=
 match us with
 | []=>x
 | u::r=>match Nat.beq u.1 i with | true=>(x.1,u.2) | false=>upAt r i x
def modAt (o:Obj):Nat→Blks→Blks
 | _,[]=>[]
 | 0,x::r=>(x.1,o)::r
 | i+1,x::r=>x::modAt o i r
def setAll (us:List (Nat×Obj))(L:Blks):Blks:=
 match us with
 | []=>L
 | u::r=>modAt u.2 u.1 (setAll r L)
def newL (b:Nat)(r:Res)(L:Blks):Blks:=
 match r.new,r.ups with
 | none,[]=>L
 | none,us=>setAll us L
 | some ob,[]=>(b,ob)::L
 | some ob,us=>(b,ob)::setAll us L
theorem upAt_fst (us:List (Nat×Obj))(i:Nat)(x:Nat×Obj):(upAt us i x).1=x.1:=by
 induction us with
 | nil=>rfl
 | cons u r ih=>unfold upAt;split <;> first | rfl | exact ih
theorem upAt_cases (us:List (Nat×Obj))(i:Nat)(x:Nat×Obj):(∃u∈us,u.1=i∧upAt us i x=(x.1,u.2))∨((∀u∈us,u.1≠i)∧upAt us i x=x):=by
 induction us with
 | nil=>exact .inr ⟨fun u hu=>(nomatch hu),rfl⟩
 | cons u r ih=>
  cases h:Nat.beq u.1 i with
  | true=>exact .inl ⟨u,by simp,Nat.eq_of_beq_eq_true h,by simp [upAt,h]⟩
  | false=>
   have hne:u.1≠i:=Nat.ne_of_beq_eq_false h
   rcases ih with⟨v,hv,h1,h2⟩ | ⟨h1,h2⟩
   ·exact .inl ⟨v,by simp [hv],h1,by simp [upAt,h,h2]⟩
   ·exact .inr ⟨fun v hv=>(List.mem_cons.1 hv).elim (fun e=>by rw [e];exact hne) (h1 v),by simp [upAt,h,h2]⟩
theorem modAt_get (o:Obj):∀(j:Nat) (L:Blks) (i:Nat),(modAt o j L)[i]? = (L[i]?).map (fun x=>match Nat.beq j i with | true=>(x.1,o) | false=>x)
 | j,[],i=>by cases j <;> simp [modAt]
 | 0,x::r,0=>by simp [modAt]
 | 0,x::r,i+1=>by simp [modAt,Nat.beq]
 | j+1,x::r,0=>by simp [modAt,Nat.beq]
 | j+1,x::r,i+1=>by simp [modAt,Nat.beq,modAt_get o j r i]
theorem setAll_get:∀(us:List (Nat×Obj)) (L:Blks) (i:Nat),(setAll us L)[i]? = (L[i]?).map (upAt us i)
 | [],L,i=>by
  simp only [setAll]
  cases h:L[i]? with
  | none=>rfl
  | some x=>rfl
 | u::r,L,i=>by
  simp only [setAll,modAt_get,setAll_get r L i,Option.map_map]
  congr 1
  funext x
  simp only [Function.comp,upAt]
  split <;> rename_i h
  ·rw [upAt_fst]
  ·rfl
theorem setAll_nil (L:Blks):setAll [] L=L:=rfl
theorem newL_eq (b:Nat)(r:Res)(L:Blks):newL b r L=(match r.new with | some ob=>[(b,ob)] | none=>[])++setAll r.ups L:=by
 unfold newL
 cases hn:r.new <;> cases hu:r.ups <;> simp [setAll_nil]
abbrev Row:Type:=Value×TypeId×Nat×Nat×List Value
structure MemS (S:Nat→Prop)(w0 w:World)(L:Blks)(R:List Row):Prop where
 os:w.os=w0.os
 tape:w.tape=w0.tape
 output:w.output=w0.output
 size:w0.heap.size≤w.heap.size
 block:∀k,S k→w.heap[k]? = w0.heap[k]?
 old:∀k,S k→k<w0.heap.size
 has:∀(i:Nat) (x:Nat×Obj),L[i]? = some x→w.heap[x.1]? = some x.2
 apart:∀(i j:Nat) (x y:Nat×Obj),L[i]? = some x→L[j]? = some y→i≠j→x.1≠y.1
 base:∀(i:Nat) (x:Nat×Obj),L[i]? = some x→¬S x.1
 rows:∀r∈R,w.ownsRow w0.heap.size r.2.1 r.2.2.1 r.1 r.2.2.2.1 r.2.2.2.2
 rowsL:∀r∈R,∀g,r.1.ownBlock=some g→∀x∈L,x.1≠g
 rowsR:∀(i j:Nat) (r r':Row),R[i]? = some r→R[j]? = some r'→i≠j→∀g,r.1.ownBlock=some g→r'.1.ownBlock≠some g
theorem ownsRow_lt {w:World}{base n k:Nat}{e:TypeId}{v:Value}{xs:List Value}(h:w.ownsRow base e k v n xs){g:Nat}(hg:v.ownBlock=some g):base≤g∧g<w.heap.size:=by
 obtain⟨_,⟨rfl,_⟩ | ⟨g',cap,cur,rfl,h2,h3,_⟩⟩:=h
 ·cases hg
 ·obtain rfl:g'=g:=by simpa [Value.ownBlock]using hg
  exact⟨h2,lt_of_block h3⟩
theorem ownsRow_keep {w w':World}{base n k:Nat}{e:TypeId}{v:Value}{xs:List Value}(h:w.ownsRow base e k v n xs)(hg:∀g,v.ownBlock=some g→w'.heap[g]? = w.heap[g]?):w'.ownsRow base e k v n xs:=by
 obtain⟨h1,h | ⟨g',cap,cur,rfl,h2,h3,h4⟩⟩:=h
 ·exact⟨h1,.inl h⟩
 ·exact⟨h1,.inr ⟨g',cap,cur,rfl,h2,(hg g' rfl).trans h3,h4⟩⟩
namespace MemS
variable {S:Nat→Prop} {w0 w w':World} {L:Blks} {R:List Row}
theorem start (w:World):MemS (fun k=>k<w.heap.size) w w [] []:=⟨rfl,rfl,rfl,Nat.le_refl _,fun _ _=>rfl,fun _ h=>h,fun i x h=>by simp at h,fun i j x y h=>by simp at h,fun i x h=>by simp at h,fun r h=>(nomatch h),fun r h=>(nomatch h),fun i j r r' h=>by simp at h⟩
theorem start1 {w:World}{b:Nat}{o:Obj}(h:w.heap[b]? = some o):MemS (fun k=>k<w.heap.size∧k≠b) w w [(b,o)] []:=
 ⟨rfl,rfl,rfl,Nat.le_refl _,fun _ _=>rfl,fun _ h=>h.1,fun i x hx=>by cases i with | zero=>simp at hx;subst hx;exact h | succ i=>simp at hx,
  fun i j x y hx hy hij=>by cases i with | zero=>(cases j with | zero=>omega | succ j=>simp at hy) | succ i=>simp at hx,
  fun i x hx=>by cases i with | zero=>simp at hx;subst hx;simp | succ i=>simp at hx,fun r h=>(nomatch h),fun r h=>(nomatch h),fun i j r r' h=>by simp at h⟩
theorem get (M:MemS S w0 w L R)(i:Nat){b:Nat}{o:Obj}(h:L[i]? = some (b,o)):w.heap[b]? = some o:=M.has i _ h
theorem keep (M:MemS S w0 w L R)(hb:Below w.heap.size w w'):MemS S w0 w' L R:=
 ⟨hb.os.trans M.os,hb.tape.trans M.tape,hb.output.trans M.output,Nat.le_trans M.size hb.size,fun k hk=>(hb.block k (Nat.lt_of_lt_of_le (M.old k hk) M.size)).trans (M.block k hk),M.old,fun i x h=>Go.Proofs.YtdokjecjiifciaaGreatDoor.keep hb (M.has i x h),M.apart,M.base,
  fun r hr=>ownsRow_keep (M.rows r hr) fun g hg=>hb.block g (ownsRow_lt (M.rows r hr) hg).2,M.rowsL,M.rowsR⟩
theorem below (M:MemS (fun k=>k<w0.heap.size) w0 w L R):Below w0.heap.size w0 w:=⟨M.os,M.tape,M.output,M.size,fun k hk=>M.block k hk⟩
end MemS
section
variable {P:Program} {ops:Array Oper} {a:Act} {w0 w w':World} {Q:Exit→Act→World→Prop} {n:Nat} {l:Slots} {L:Blks} {r:Res} {b:Nat} {S:Nat→Prop} {R:List Row}
theorem MemS.post (M:MemS S w0 w L R)(p:Post w w' L r b):MemS S w0 w' (newL b r L) R:=by
 have hup:∀(i:Nat) (x:Nat×Obj),(setAll r.ups L)[i]? = some x→∃y,L[i]? = some y∧x.1=y.1∧w'.heap[x.1]? = some x.2:=fun i x h=>by
  rw [setAll_get]at h
  obtain⟨y,hy,rfl⟩:=Option.map_eq_some_iff.1 h
  refine⟨y,hy,upAt_fst _ _ _,?_⟩
  rcases upAt_cases r.ups i y with⟨u,hu,h1,h2⟩ | ⟨h1,h2⟩
  ·rw [h2]
   exact p.turned u hu y (by rw [h1];exact hy)
  ·rw [h2]
   rw [p.block y.1 (lt_of_block (M.has i y hy)) (fun u hu z hz=>M.apart u.1 i z y hz hy (h1 u hu))]
   exact M.has i y hy
 have hblock:∀k,S k→w'.heap[k]? = w0.heap[k]?:=fun k hk=>by
  rw [p.block k (Nat.lt_of_lt_of_le (M.old k hk) M.size) (fun u _ z hz e=>M.base u.1 z hz (e▸hk))]
  exact M.block k hk
 have hrows:∀q∈R,w'.ownsRow w0.heap.size q.2.1 q.2.2.1 q.1 q.2.2.2.1 q.2.2.2.2:=fun q hq=>ownsRow_keep (M.rows q hq) fun g hg=>p.block g (ownsRow_lt (M.rows q hq) hg).2 fun u _ y hy=>M.rowsL q hq g hg y (List.mem_of_getElem? hy)
 have hrl:∀q∈R,∀g,q.1.ownBlock=some g→∀x∈setAll r.ups L,x.1≠g:=fun q hq g hg x hx=>by
  obtain⟨i,hi⟩:=List.mem_iff_getElem?.1 hx
  obtain⟨y,h1,h2,_⟩:=hup i x hi
  rw [h2];exact M.rowsL q hq g hg y (List.mem_of_getElem? h1)
 rw [newL_eq]
 cases hn:r.new with
 | none=>
  simp only [List.nil_append]
  refine⟨p.os.trans M.os,p.tape.trans M.tape,p.output.trans M.output,Nat.le_trans M.size p.size,hblock,M.old,fun i x h=>?_,fun i j x y h h' hij=>?_,fun i x h=>?_,hrows,hrl,M.rowsR⟩
  ·obtain⟨y,_,_,h3⟩:=hup i x h;exact h3
  ·obtain⟨y1,h1,h2,_⟩:=hup i x h
   obtain⟨y2,h3,h4,_⟩:=hup j y h'
   rw [h2,h4];exact M.apart i j y1 y2 h1 h3 hij
  ·obtain⟨y1,h1,h2,_⟩:=hup i x h
   rw [h2];exact M.base i y1 h1
 | some ob=>
  obtain⟨hb,hob⟩:=p.fresh ob hn
  have hlt:∀(i:Nat) (x:Nat×Obj),(setAll r.ups L)[i]? = some x→x.1<b:=fun i x h=>by
   obtain⟨y,h1,h2,_⟩:=hup i x h
   rw [h2,hb];exact lt_of_block (M.has i y h1)
  refine⟨p.os.trans M.os,p.tape.trans M.tape,p.output.trans M.output,Nat.le_trans M.size p.size,hblock,M.old,fun i x h=>?_,fun i j x y h h' hij=>?_,fun i x h=>?_,hrows,fun q hq g hg x hx=>?_,M.rowsR⟩
  ·cases i with
   | zero=>simp at h;subst h;exact hob
   | succ i=>obtain⟨y,_,_,h3⟩:=hup i x (by simpa using h);exact h3
  ·cases i with
   | zero=>
    simp at h;subst h
    cases j with
    | zero=>omega
    | succ j=>have:=hlt j y (by simpa using h');exact Nat.ne_of_gt this
   | succ i=>
    have h:=(show(setAll r.ups L)[i]? = some x by simpa using h)
    cases j with
    | zero=>simp at h';subst h';exact Nat.ne_of_lt (hlt i x h)
    | succ j=>
     have h':=(show(setAll r.ups L)[j]? = some y by simpa using h')
     obtain⟨y1,h1,h2,_⟩:=hup i x h
     obtain⟨y2,h3,h4,_⟩:=hup j y h'
     rw [h2,h4];exact M.apart i j y1 y2 h1 h3 (by omega)
  ·cases i with
   | zero=>simp at h;subst h;rw [hb];exact fun hs=>Nat.lt_irrefl _ (Nat.lt_of_lt_of_le (M.old _ hs) M.size)
   | succ i=>
    obtain⟨y1,h1,h2,_⟩:=hup i x (by simpa using h)
    rw [h2];exact M.base i y1 h1
  ·rcases List.mem_cons.1 hx with rfl | hx
   ·rw [hb];exact Nat.ne_of_gt (ownsRow_lt (M.rows q hq) hg).2
   ·exact hrl q hq g hg x hx
theorem MemS.hasL (M:MemS S w0 w L R):Has w L:=fun i x h=>M.has i x h
theorem modAt_eq {b:Nat}{ob:Obj}:∀{i:Nat} {L:Blks},L[i]? = some (b,ob)→modAt ob i L=L
 | _,[],h=>(by simp at h)
 | 0,x::r,h=>by
  obtain rfl:=Option.some.inj h
  rfl
 | i+1,x::r,h=>congrArg (x :: ·) (modAt_eq (i:=i) (L:=r) h)
theorem MemS.eqA (M:MemS S w0 w L R)(i:Nat){b:Nat}{ob ob':Obj}(h:L[i]? = some (b,ob))(e:ob'=ob):MemS S w0 w (modAt ob' i L) R:=by
 rw [e,modAt_eq h]
 exact M
theorem MemS.eqR {v:Value}{e:TypeId}{k m:Nat}{X X':List Value}(M:MemS S w0 w L ((v,e,k,m,X)::R))(h:X'=X):MemS S w0 w L ((v,e,k,m,X')::R):=h▸M
theorem look_mem:∀(l:Slots) (t:Nat) (v:Value),look t l=some v→(t,v)∈l
 | [],_,_,h=>by cases h
 | x::r,t,v,h=>by
  unfold look at h
  split at h
  ·rename_i hb
   obtain rfl:=Option.some.inj h
   rw [←Nat.eq_of_beq_eq_true hb]
   simp
  ·exact List.mem_cons_of_mem _ (look_mem r t v h)
theorem Fr.agr (F:Fr n a l):Agr a.eval l:=fun x v h=>by
 cases x with
 | tmp t=>exact eval_tmp (F.has (t,v) (look_mem l t v h))
 | const u=>exact Option.some.inj h
 | func f=>exact Option.some.inj h
 | global g=>exact Option.some.inj h
def wantOf (ops:List Oper)(l:Slots)(o:Oper):Option Bool:=
 match o.guard with
 | none=>some true
 | some (j,bv)=>match(ops[j]?).bind (·.dst)with
  | some d=>match look d l with | some (.bool c)=>some (match c,bv with | true,true=>true | false,false=>true | _,_=>false) | some (.tuple _)=>some false | _=>none
  | none=>none
def putS (d:Option Nat)(v:Value)(l:Slots):Slots:=match d with | some d=>upd d v l | none=>l
def memB (t:Nat):List Nat→Bool
 | []=>false
 | x::r=>match Nat.beq x t with | true=>true | false=>memB t r
def keepS (out:List Nat):Slots→Slots
 | []=>[]
 | x::r=>match memB x.1 out with | true=>x::keepS out r | false=>keepS out r
theorem keepS_mem (out:List Nat):∀(l:Slots) (x:Nat×Value),x∈keepS out l→x∈l
 | [],_,h=>by cases h
 | y::r,x,h=>by
  unfold keepS at h
  split at h
  ·rcases List.mem_cons.1 h with rfl | h
   ·simp
   ·exact List.mem_cons_of_mem _ (keepS_mem out r x h)
  ·exact List.mem_cons_of_mem _ (keepS_mem out r x h)
theorem Fr.keepS (F:Fr n a l)(out:List Nat):Fr n a (keepS out l):=⟨F.defers,F.size,fun x hx=>F.has x (keepS_mem out l x hx)⟩
def awp (P:Program)(ops:List Oper)(out:List Nat)(K:Slots→Blks→Prop):List Oper→List Hint→Slots→Blks→Prop
 | [],_,l,L=>K (keepS out l) L
 | o::rest,hs,l,L=>
  match wantOf ops l o with
  | some true=>match hs with
   | h::hs=>match aev P l L h o with
    | some (r,cs)=>allC cs (match r.new with
     | none=>awp P ops out K rest hs (putS o.dst (r.val 0) l) (newL 0 r L)
     | some _=>∀b,awp P ops out K rest hs (putS o.dst (r.val b) l) (newL b r L))
    | none=>False
   | []=>False
  | some false=>match hs with
   | _::hs=>awp P ops out K rest hs (putS o.dst undef l) L
   | []=>False
  | none=>False
theorem wanted_iff {o:Oper}{c:Bool}(h:wantOf ops.toList l o=some c)(hsz:∀t v,look t l=some v→a.tmps[t]? = some v):Region.wanted o (yielded ops a.tmps)=c:=by
 unfold wantOf at h
 split at h
 ·rename_i hg
  obtain rfl:=Option.some.inj h
  simp [Region.wanted,hg]
 ·rename_i j bv hg
  split at h <;> first | (cases h;done) | skip
  rename_i d hd
  split at h
  ·rename_i c' hc
   have hv:=hsz d _ hc
   have hd':(ops[j]?).bind (·.dst)=some d:=by simpa using hd
   obtain rfl:=Option.some.inj h
   cases c' <;> cases bv
   ·exact wanted_of hg hd' hv
   ·exact unwanted_of hg hd' hv
   ·exact unwanted_of hg hd' hv
   ·exact wanted_of hg hd' hv
  ·rename_i hc
   have hv:=hsz d _ hc
   have hd':(ops[j]?).bind (·.dst)=some d:=by simpa using hd
   obtain rfl:=Option.some.inj h
   simp [Region.wanted,hg,yielded,hd',hv]
  ·cases h
theorem Fr.lk (F:Fr n a l):∀t v,look t l=some v→a.tmps[t]? = some v:=fun t v h=>F.has (t,v) (look_mem l t v h)
theorem Fr.putS (F:Fr n a l){o:Oper}(v:Value)(hd:dstsB n [o]=true):Fr n (a.put o.dst v) (putS o.dst v l):=by
 cases h:o.dst with
 | none=>exact F
 | some d=>
  simp only [dstsB,List.all_cons,h,List.all_nil,Bool.and_true]at hd
  exact F.put v (by simp [Nat.blt]at hd;omega)
theorem seq_ok {rest:List Oper}{out:List Nat}{K:Slots→Blks→Prop}(hK:∀l' L' a' w',K l' L'→Fr n a' l'→MemS S w0 w' L' R→wpList P ops Q rest a' w') :
  ∀(pre:List Oper) (hs:List Hint) (l:Slots) (L:Blks) (a:Act) (w:World),dstsB n pre=true→awp P ops.toList out K pre hs l L→Fr n a l→MemS S w0 w L R→wpList P ops Q (pre++rest) a w
 | [],_,l,L,a,w,_,h,F,M=>hK _ _ a w h (F.keepS out) M
 | o::pre,hs,l,L,a,w,hd,h,F,M=>by
  have hd1:dstsB n [o]=true:=by simp only [dstsB,List.all_cons,Bool.and_eq_true,List.all_nil,Bool.and_true]at hd ⊢;exact hd.1
  have hd2:dstsB n pre=true:=by simp only [dstsB,List.all_cons,Bool.and_eq_true]at hd ⊢;exact hd.2
  simp only [awp]at h
  refine wpList_step fun K' hK'=>?_
  split at h
  ·rename_i hw
   rw [if_pos (wanted_iff hw F.lk)]
   split at h <;> first | exact h.elim | skip
   rename_i h1 hs
   split at h <;> first | exact h.elim | skip
   rename_i r cs hr
   obtain⟨hcs,hn⟩:=allC_iff.1 h
   refine aev_ok F.agr M.hasL hr hcs _ _ fun b w' p=>hK' _ _ ?_
   have M':=M.post p
   split at hn
   ·rename_i hnew
    obtain rfl:=p.zero hnew
    exact seq_ok hK pre hs _ _ _ _ hd2 hn (F.putS _ hd1) M'
   ·exact seq_ok hK pre hs _ _ _ _ hd2 (hn b) (F.putS _ hd1) M'
  ·rename_i hw
   rw [if_neg (by rw [wanted_iff hw F.lk];decide)]
   split at h <;> first | exact h.elim | skip
   exact hK' _ _ (seq_ok hK pre _ _ _ _ _ hd2 h (F.putS _ hd1) M)
  ·exact h.elim
abbrev Item:Type:=Value⊕(Obj×(Nat→Value))
def depSlots (ops:List Oper)(specs:List Item)(nb:Nat→Nat):List Nat→Slots
 | []=>[]
 | j::r=>match(ops[j]?).bind (·.dst),specs[j]? with | some d,some s=>(d,valOf s (nb j))::depSlots ops specs nb r | _,_=>depSlots ops specs nb r
def depBlks (specs:List Item)(nb:Nat→Nat):List Nat→Blks
 | []=>[]
 | j::r=>match specs[j]? with | some (.inr (ob,_))=>(nb j,ob)::depBlks specs nb r | _=>depBlks specs nb r
def dstsOf:List Oper→List Nat
 | []=>[]
 | o::r=>match o.dst with | some d=>d::dstsOf r | none=>dstsOf r
def dropS (ds:List Nat):Slots→Slots
 | []=>[]
 | x::r=>match memB x.1 ds with | true=>dropS ds r | false=>x::dropS ds r
def itemOf (r:Res):Option Item:=
 match r.ups,r.new with
 | [],none=>some (.inl (r.val 0))
 | [],some ob=>some (.inr (ob,r.val))
 | _::_,_=>none
def dres (P:Program)(ops:List Oper)(specs:List Item)(nb:Nat→Nat)(lo:Slots)(L:Blks):List Oper→List Hint→Option (List Item×List Prop)
 | [],_=>some ([],[])
 | _::_,[]=>none
 | o::rest,h::hs=>
  match dres P ops specs nb lo L rest hs with
  | none=>none
  | some (is,cs)=>
   match wantOf ops (depSlots ops specs nb (depsOf o)++lo) o with
   | some true=>match aev P (depSlots ops specs nb (depsOf o)++lo) (depBlks specs nb (depsOf o)++L) h o with
    | some (r,cs')=>match itemOf r with | some i=>some (i::is,cs'++cs) | none=>none
    | none=>none
   | some false=>some (.inl undef::is,cs)
   | none=>none
end
end Go.Proofs.YtdokjecjiifciaaGreatDoor
namespace Go.Proofs.YtdokjecjiifciaaGreatDoor
open Go.RowKit
section
variable {P:Program} {ops:Array Oper} {a:Act} {w0 w w':World} {Q:Exit→Act→World→Prop} {n:Nat} {l:Slots} {L:Blks} {S:Nat→Prop} {R:List Row}
theorem dres_get {os:List Oper}{specs:List Item}{nb:Nat→Nat}{lo:Slots}:∀(pre:List Oper) (hs:List Hint) (is:List Item) (cs:List Prop),dres P os specs nb lo L pre hs=some (is,cs)→(∀c∈cs,c)→
  ∀(i:Nat) (o:Oper) (s:Item),pre[i]? = some o→is[i]? = some s→
   (wantOf os (depSlots os specs nb (depsOf o)++lo) o=some true∧∃h r cs',aev P (depSlots os specs nb (depsOf o)++lo) (depBlks specs nb (depsOf o)++L) h o=some (r,cs')∧(∀c∈cs',c)∧itemOf r=some s)∨
   (wantOf os (depSlots os specs nb (depsOf o)++lo) o=some false∧s=.inl undef)
 | [],_,_,_,_,_,i,o,s,h,_=>by simp at h
 | _::_,[],_,_,h,_,_,_,_,_,_=>by cases h
 | x::rest,h::hs,is,cs,hd,hc,i,o,s,ho,hs'=>by
  simp only [dres]at hd
  split at hd <;> first | (cases hd;done) | skip
  rename_i is1 cs1 h1
  have tail:(∀c∈cs1,c)→∀j,rest[j]? = some o→is1[j]? = some s→_:=fun hc1 j hj hj'=>dres_get rest hs is1 cs1 h1 hc1 j o s hj hj'
  split at hd <;> first | (cases hd;done) | skip
  ·rename_i hw
   split at hd <;> first | (cases hd;done) | skip
   rename_i r cs2 hr
   split at hd <;> first | (cases hd;done) | skip
   rename_i it hit
   simp only [Option.some.injEq,Prod.mk.injEq]at hd
   obtain⟨rfl,rfl⟩:=hd
   cases i with
   | zero=>
    simp at ho hs'
    subst ho hs'
    exact .inl ⟨hw,h,r,cs2,hr,fun c hc'=>hc c (by simp [hc']),hit⟩
   | succ j=>exact tail (fun c hc'=>hc c (by simp [hc'])) j (by simpa using ho) (by simpa using hs')
  ·rename_i hw
   simp only [Option.some.injEq,Prod.mk.injEq]at hd
   obtain⟨rfl,rfl⟩:=hd
   cases i with
   | zero=>
    simp at ho hs'
    subst ho hs'
    exact .inr ⟨hw,rfl⟩
   | succ j=>exact tail hc j (by simpa using ho) (by simpa using hs')
theorem HAll_of {base:Nat}{C:World→Prop}{m:Nat}{a0:Act}{specs:List Item}{F:Nat→Bool}:∀(l:List Oper) (ss:List Item) (k:Nat),
  (∀(i:Nat) o s,l[i]? = some o→ss[i]? = some s→∀a w,C w→(∀t:Nat,((ops.toList.take m).all fun o=>o.dst != some t)=true→a.tmps[t]? = a0.tmps[t]?)→Deps base ops specs o a w→OpOk base P Q ops o s (F (k+i)) a w)→
  HAll base P Q C ops m a0 specs F l ss k
 | [],_,_,_=>trivial
 | _::_,[],_,_=>trivial
 | o::l,s::ss,k,h=>⟨h 0 o s rfl rfl,HAll_of l ss (k+1) fun i o' s' h1 h2=>by
   have:=h (i+1) o' s' (by simpa using h1) (by simpa using h2)
   rwa [show k+(i+1)=k+1+i by omega]at this⟩
theorem factsOf_get {base:Nat}{nb:Nat→Nat}:∀(specs:List Item) (k:Nat),factsOf base w specs nb k→∀(i:Nat) (o:Obj) (mk:Nat→Value),specs[i]? = some (.inr (o,mk))→base≤nb (k+i)∧w.heap[nb (k+i)]? = some o
 | [],_,_,i,_,_,h=>by simp at h
 | .inl _::specs,k,hf,0,_,_,h=>by simp at h
 | .inl _::specs,k,hf,i+1,o,mk,h=>by
  have:=factsOf_get specs (k+1) hf i o mk (by simpa using h)
  rwa [show k+1+i=k+(i+1)by omega]at this
 | .inr (o',mk')::specs,k,hf,0,o,mk,h=>by
  simp at h
  obtain⟨rfl,rfl⟩:=h
  exact hf.1
 | .inr (o',mk')::specs,k,hf,i+1,o,mk,h=>by
  have:=factsOf_get specs (k+1) hf.2 i o mk (by simpa using h)
  rwa [show k+1+i=k+(i+1)by omega]at this
theorem depSlots_mem {os:List Oper}{specs:List Item}{nb:Nat→Nat}:∀(js:List Nat) (t:Nat) (v:Value),(t,v)∈depSlots os specs nb js→∃j∈js,∃s,(os[j]?).bind (·.dst)=some t∧specs[j]? = some s∧v=valOf s (nb j)
 | [],_,_,h=>by cases h
 | j::r,t,v,h=>by
  unfold depSlots at h
  split at h
  ·rename_i d s h1 h2
   rcases List.mem_cons.1 h with h | h
   ·simp only [Prod.mk.injEq]at h
    obtain⟨rfl,rfl⟩:=h
    exact⟨j,by simp,s,h1,h2,rfl⟩
   ·obtain⟨j',hj,x⟩:=depSlots_mem r t v h
    exact⟨j',by simp [hj],x⟩
  ·obtain⟨j',hj,x⟩:=depSlots_mem r t v h
   exact⟨j',by simp [hj],x⟩
theorem depBlks_mem {specs:List Item}{nb:Nat→Nat}:∀(js:List Nat) (x:Nat×Obj),x∈depBlks specs nb js→∃j∈js,∃mk,specs[j]? = some (.inr (x.2,mk))∧x.1=nb j
 | [],_,h=>by cases h
 | j::r,x,h=>by
  unfold depBlks at h
  split at h
  ·rename_i ob mk h1
   rcases List.mem_cons.1 h with rfl | h
   ·exact⟨j,by simp,mk,h1,rfl⟩
   ·obtain⟨j',hj,y⟩:=depBlks_mem r x h
    exact⟨j',by simp [hj],y⟩
  ·obtain⟨j',hj,y⟩:=depBlks_mem r x h
   exact⟨j',by simp [hj],y⟩
theorem dropS_mem (ds:List Nat):∀(l:Slots) (x:Nat×Value),x∈dropS ds l→x∈l∧memB x.1 ds=false
 | [],_,h=>by cases h
 | y::r,x,h=>by
  unfold dropS at h
  split at h
  ·obtain⟨h1,h2⟩:=dropS_mem ds r x h
   exact⟨List.mem_cons_of_mem _ h1,h2⟩
  ·rename_i hb
   rcases List.mem_cons.1 h with rfl | h
   ·exact⟨by simp,hb⟩
   ·obtain⟨h1,h2⟩:=dropS_mem ds r x h
    exact⟨List.mem_cons_of_mem _ h1,h2⟩
theorem memB_false {t:Nat}:∀(ds:List Nat),memB t ds=false→t∉ds
 | [],_,h=>by cases h
 | x::r,hm,h=>by
  unfold memB at hm
  split at hm
  ·cases hm
  ·rename_i hb
   rcases List.mem_cons.1 h with rfl | h
   ·exact Nat.ne_of_beq_eq_false hb rfl
   ·exact memB_false r hm h
theorem dstsOf_mem:∀(os:List Oper) (o:Oper) (d:Nat),o∈os→o.dst=some d→d∈dstsOf os
 | [],_,_,h,_=>by cases h
 | x::r,o,d,h,hd=>by
  unfold dstsOf
  rcases List.mem_cons.1 h with rfl | h
  ·rw [hd];simp
  ·have:=dstsOf_mem r o d h hd
   split
   ·exact List.mem_cons_of_mem _ this
   ·exact this
def FsOk (specs:List Item):List Nat→Prop
 | []=>True
 | i::r=>(∃o,specs[i]? = some (.inr (o,fun b=>.pointer (some ⟨b,0,none⟩))))∧memB i r=false∧FsOk specs r
theorem FsOk.get {specs:List Item}:∀{fs:List Nat},FsOk specs fs→∀i∈fs,∃o,specs[i]? = some (.inr (o,fun b=>.pointer (some ⟨b,0,none⟩)))
 | [],_,i,h=>by cases h
 | j::r,⟨h1,_,h3⟩,i,h=>by
  rcases List.mem_cons.1 h with rfl | h
  ·exact h1
  ·exact FsOk.get h3 i h
theorem MemS.addFs {specs:List Item}{nb:Nat→Nat}(M:MemS S w0 w' L R){base:Nat}(hb0:w0.heap.size≤base)(hbL:∀(i:Nat) (x:Nat×Obj),L[i]? = some x→x.1<base)(hbR:∀q∈R,∀g,q.1.ownBlock=some g→g<base)(hf:factsOf base w' specs nb 0) :
  ∀(fs:List Nat),FsOk specs fs→(∀i j,i∈fs→j∈fs→i≠j→nb i≠nb j)→MemS S w0 w' (depBlks specs nb fs++L) R
 | [],_,_=>M
 | i::r,⟨⟨o,ho⟩,hnd,h3⟩,hne=>by
  have ih:=MemS.addFs M hb0 hbL hbR hf r h3 (fun a b ha hb=>hne a b (by simp [ha]) (by simp [hb]))
  have hfi:=factsOf_get specs 0 hf i o _ ho
  rw [Nat.zero_add]at hfi
  have e:depBlks specs nb (i::r)=(nb i,o)::depBlks specs nb r:=by simp [depBlks,ho]
  rw [e]
  have key:∀(k:Nat) (x:Nat×Obj),(depBlks specs nb r++L)[k]? = some x→x.1≠nb i:=fun k x hx=>by
   rcases List.mem_append.1 (List.mem_of_getElem? hx)with h | h
   ·obtain⟨j,hj,mk,hs,e⟩:=depBlks_mem r x h
    rw [e]
    exact hne j i (by simp [hj]) (by simp) (fun e=>memB_false r hnd (e▸hj))
   ·obtain⟨k',hk'⟩:=List.mem_iff_getElem?.1 h
    exact fun e=>by have:=hbL k' x hk';omega
  refine⟨ih.os,ih.tape,ih.output,ih.size,ih.block,ih.old,fun k x h=>?_,fun k k' x y h h' hk=>?_,fun k x h=>?_,ih.rows,fun q hq g hg x hx=>?_,ih.rowsR⟩
  ·cases k with
   | zero=>simp at h;subst h;exact hfi.2
   | succ k=>exact ih.has k x (by simpa using h)
  ·cases k with
   | zero=>
    simp at h;subst h
    cases k' with
    | zero=>omega
    | succ k'=>exact Ne.symm (key k' y (by simpa using h'))
   | succ k=>
    cases k' with
    | zero=>simp at h';subst h';exact key k x (by simpa using h)
    | succ k'=>exact ih.apart k k' x y (by simpa using h) (by simpa using h') (by omega)
  ·cases k with
   | zero=>simp at h;subst h;exact fun hs=>by have:=M.old _ hs;have:=hfi.1;simp at *;omega
   | succ k=>exact ih.base k x (by simpa using h)
  ·rcases List.mem_cons.1 hx with rfl | hx
   ·exact fun e=>by have:=hbR q hq g hg;have:=hfi.1;simp at *;omega
   ·exact ih.rowsL q hq g hg x hx
theorem draw_hall (F:Fr n a l)(M:MemS S w0 w L R)(specs:List Item)(fs:List Nat)(hs:List Hint)(C:(Nat→Nat)→List Prop)(hG:goodB ops.toList specs.length n=true)
  (h1:∀nb,dres P ops.toList specs nb (dropS (dstsOf (ops.toList.take specs.length)) l) L (ops.toList.take specs.length) hs=some (specs,C nb)) (hf:FsOk specs fs) (c:∀nb,allC (C nb) True) :
  HAll w.heap.size P Q (fun w'=>Below w.heap.size w w') ops specs.length a specs (fun i=>fs.contains i) ops.toList specs 0:=by
 refine HAll_of _ _ _ fun i o s ho hs1 a' w' hC hk hD=>?_
 have him:i<specs.length:=by
  rcases Nat.lt_or_ge i specs.length with h | h
  ·exact h
  ·rw [List.getElem?_eq_none h]at hs1;cases hs1
 have ho':(ops.toList.take specs.length)[i]? = some o:=by rw [List.getElem?_take,if_pos him];exact ho
 -- the new blocks' numbers
 have hnb:∃nb:Nat→Nat,∀j∈depsOf o,∀d s,(ops[j]?).bind (·.dst)=some d→specs[j]? = some s→a'.tmps[d]? = some (valOf s (nb j))∧∀ob mk,s=.inr (ob,mk)→w.heap.size≤nb j∧w'.heap[nb j]? = some ob:=by
  have:∀j,∃x:Nat,j∈depsOf o→∀d s,(ops[j]?).bind (·.dst)=some d→specs[j]? = some s→a'.tmps[d]? = some (valOf s x)∧∀ob mk,s=.inr (ob,mk)→w.heap.size≤x∧w'.heap[x]? = some ob:=fun j=>by
   by_cases hj:j∈depsOf o
   ·have hDj:=hD j (by simpa using hj)
    cases hd':(ops[j]?).bind (·.dst)with
    | none=>exact⟨0,fun _ d s h=>by cases h⟩
    | some d=>
     cases hs2:specs[j]? with
     | none=>exact⟨0,fun _ d s _ h=>by cases h⟩
     | some s=>
      simp only [hd',hs2]at hDj
      match s,hDj with
      | .inl v,hDj=>exact⟨0,fun _ d' s' e1 e2=>by cases e1;cases e2;exact⟨hDj,fun ob mk e=>by cases e⟩⟩
      | .inr (ob,mk),⟨x,hx1,hx2,hx3⟩=>exact⟨x,fun _ d' s' e1 e2=>by cases e1;cases e2;exact⟨hx1,fun ob' mk' e=>by cases e;exact⟨hx2,hx3⟩⟩⟩
   ·exact⟨0,fun h=>(hj h).elim⟩
  exact⟨fun j=>(this j).choose,fun j hj=>(this j).choose_spec hj⟩
 obtain⟨nb,hnb⟩:=hnb
 have hcs:=(allC_iff.1 (c nb)).1
 have hlk:∀t v,look t (depSlots ops.toList specs nb (depsOf o)++dropS (dstsOf (ops.toList.take specs.length)) l)=some v→a'.tmps[t]? = some v:=fun t v h=>by
  rcases List.mem_append.1 (look_mem _ t v h)with h | h
  ·obtain⟨j,hj,s',h1',h2',rfl⟩:=depSlots_mem _ t v h
   exact(hnb j hj t s' (by simpa using h1') h2').1
  ·obtain⟨h3,h4⟩:=dropS_mem _ l _ h
   have:=hk t (by
    rw [List.all_eq_true]
    intro o' ho2
    simp only [bne_iff_ne,ne_eq]
    exact fun e=>memB_false _ h4 (dstsOf_mem _ o' t ho2 e))
   rw [this]
   exact F.has _ h3
 have A:Agr a'.eval (depSlots ops.toList specs nb (depsOf o)++dropS (dstsOf (ops.toList.take specs.length)) l):=fun x v h=>by
  cases x with
  | tmp t=>exact eval_tmp (hlk t v h)
  | const u=>exact Option.some.inj h
  | func f=>exact Option.some.inj h
  | global g=>exact Option.some.inj h
 have H:Has w' (depBlks specs nb (depsOf o)++L):=fun k x hx=>by
  rcases List.mem_append.1 (List.mem_of_getElem? hx)with h | h
  ·obtain⟨j,hj,mk,hs2,e⟩:=depBlks_mem _ x h
   rw [e]
   have hjm:j<specs.length:=by
    rcases Nat.lt_or_ge j specs.length with h | h
    ·exact h
    ·rw [List.getElem?_eq_none h]at hs2;cases hs2
   obtain⟨oj,dj,q1,q2,_⟩:=(good_of hG).own j hjm
   exact((hnb j hj dj _ (by simp [show ops[j]? = some oj by simpa using q1,q2]) hs2).2 x.2 mk rfl).2
  ·obtain⟨k',hk'⟩:=List.mem_iff_getElem?.1 h
   exact keep hC (M.has k' x hk')
 rw [Nat.zero_add]
 have hfr:fs.contains i=true→∃ob,s=.inr (ob,fun b=>.pointer (some ⟨b,0,none⟩)):=fun h=>by
  obtain⟨ob,e⟩:=hf.get i (by simpa using h)
  rw [hs1]at e
  exact⟨ob,Option.some.inj e⟩
 rcases dres_get _ _ _ _ (h1 nb) hcs i o s ho' hs1 with⟨hw,h,r,cs',hr,hc',hit⟩ | ⟨hw,rfl⟩
 ·refine .inl ⟨wanted_iff hw hlk,?_⟩
  refine aev_ok A H hr hc' _ _ fun b w'' p=>?_
  unfold itemOf at hit
  split at hit
  ·rename_i hu hn
   obtain rfl:=Option.some.inj hit
   obtain rfl:=p.zero hn
   refine⟨r.val 0,rfl,⟨p.os,p.tape,p.output,p.size,fun k hk=>p.block k hk (fun u hu'=>by rw [hu]at hu';cases hu')⟩,rfl,fun h=>?_⟩
   obtain⟨ob,e⟩:=hfr h
   cases e
  ·rename_i ob hu hn
   obtain rfl:=Option.some.inj hit
   obtain⟨hb,hob⟩:=p.fresh ob hn
   refine⟨r.val b,rfl,⟨p.os,p.tape,p.output,p.size,fun k hk=>p.block k hk (fun u hu'=>by rw [hu]at hu';cases hu')⟩,⟨b,rfl,by rw [hb];exact hC.size,hob⟩,fun h=>?_⟩
   obtain⟨ob',e⟩:=hfr h
   simp only [Sum.inr.injEq,Prod.mk.injEq]at e
   rw [e.2,hb]
  ·cases hit
 ·refine .inr ⟨wanted_iff hw hlk,rfl,?_⟩
  cases hq:fs.contains i with
  | false=>rfl
  | true=>obtain⟨ob,e⟩:=hfr hq;cases e
theorem rg_draw {id:Nat}(F:Fr n a l)(M:MemS S w0 w L R)(specs:List Item)(fs:List Nat)(hs hs':List Hint)(out:List Nat)(C:(Nat→Nat)→List Prop)(G:(Nat→Nat)→(Slots→Blks→Prop)→Prop)
  (hm:P.follows .mixedOrders=true) (hG:goodB ops.toList specs.length n=true) (hd:dstsB n ops.toList=true)
  (h1:∀nb,dres P ops.toList specs nb (dropS (dstsOf (ops.toList.take specs.length)) l) L (ops.toList.take specs.length) hs=some (specs,C nb))
  (h2:∀nb K,awp P ops.toList out K (ops.toList.drop specs.length) hs' (pairsOf (ops.toList.take specs.length) (valsOf specs nb 0) l) (depBlks specs nb fs++L)=G nb K)
  (hf:FsOk specs fs) (c:∀nb,allC (C nb) True) (g:∀nb,G nb (fun l' L'=>∀a' w',Fr n a' l'→MemS S w0 w' L' R→Q .normal a' w')):(Code.region id ops true).wp P Q a w:=by
 refine region_list w.heap.size specs fs (C:=fun w'=>Below w.heap.size w w') hm (by rw [F.size];exact hG) ⟨rfl,rfl,rfl,Nat.le_refl _,fun _ _=>rfl⟩ (fun w1 w2 h h'=>h.trans (h'.mono h.size)) (fun i hi=>hf.get i (by simpa using hi)) ?_ ?_
 ·exact draw_hall F M specs fs hs C hG h1 hf c
 ·intro nb w' hC hfacts hne
  have M':MemS S w0 w' (depBlks specs nb fs++L) R:=MemS.addFs (M.keep hC) M.size (fun i x hx=>lt_of_block (M.has i x hx)) (fun q hq g hg=>(ownsRow_lt (M.rows q hq) hg).2) hfacts fs hf (fun i j hi hj hij=>hne i j (by simpa using hi) (by simpa using hj) hij)
  have hd1:dstsB n (ops.toList.take specs.length)=true:=by
   unfold dstsB at hd ⊢
   rw [List.all_eq_true]at hd ⊢
   exact fun o ho=>hd o (List.mem_of_mem_take ho)
  have hd2:dstsB n (ops.toList.drop specs.length)=true:=by
   unfold dstsB at hd ⊢
   rw [List.all_eq_true]at hd ⊢
   exact fun o ho=>hd o (List.mem_of_mem_drop ho)
  have F':=Fr.putAll (ops.toList.take specs.length) (valsOf specs nb 0) a l F hd1
  have:=seq_ok (P:=P) (ops:=ops) (Q:=Q) (w0:=w0) (S:=S) (R:=R) (n:=n) (rest:=[]) (out:=out) (K:=fun l' L'=>∀a' w',Fr n a' l'→MemS S w0 w' L' R→Q .normal a' w') (fun l' L' a' w' hK F M=>hK a' w' F M)
   (ops.toList.drop specs.length) hs' _ _ _ w' hd2 (by rw [h2];exact g nb) F' M'
  rwa [List.append_nil]at this
end
end Go.Proofs.YtdokjecjiifciaaGreatDoor
namespace Go.Proofs.YtdokjecjiifciaaGreatDoor
open Go.RowKit
theorem dec_t {p:Prop}[Decidable p](h:p):Value.bool (decide p)=.bool true:=by simp [h]
theorem dec_f {p:Prop}[Decidable p](h:¬p):Value.bool (decide p)=.bool false:=by simp [h]
theorem vI {k:IntKind}{m n:Nat}(h:m=n):Value.int k (m:Int)=.int k (n:Int):=by rw [h]
theorem vZ {k:IntKind}{m n:Int}(h:m=n):Value.int k m=.int k n:=by rw [h]
theorem vS {X Y:List Nat}(h:X=Y):Value.string (bs X)=.string (bs Y):=by rw [h]
theorem vS2 {s u:ByteArray}(h:s=u):Value.string s=.string u:=by rw [h]
theorem vA {c d:Array Value}(h:c=d):Value.agg c=.agg d:=by rw [h]
theorem and_low (k m:Nat):m &&& (2^k-1)=m%2^k:=Nat.and_two_pow_sub_one_eq_mod m k
theorem len_set {X:List Nat}{n i x:Nat}(h:X.length=n):(X.set i x).length=n:=by rw [List.length_set,h]
theorem rep0_lt {n B:Nat}(hB:0<B:=by decide)(i:Nat):(List.replicate n 0).getD i 0<B:=by
 rw [List.getD_eq_getElem?_getD,List.getElem?_replicate]
 split <;> simpa using hB
theorem set_lt {X:List Nat}{B j x:Nat}(hX:∀i,X.getD i 0<B)(hx:x<B)(i:Nat):(X.set j x).getD i 0<B:=by
 rw [getD_set]
 split
 ·exact hx
 ·exact hX i
theorem one_app {c d:Array Value}(h1:c.all (·.oneCell')=true)(h2:d.all (·.oneCell')=true):(c++d).all (·.oneCell')=true:=by
 rw [Array.all_append,h1,h2];rfl
theorem str_part {X:List Nat}{n off len:Nat}(hn:X.length=n)(hX:∀i,X.getD i 0<256)(h:off+len≤n):StrAt (cn .u8 X) off len (bs ((X.drop off).take len)):=by
 have hl:((X.drop off).take len).length=len:=by simp;omega
 refine⟨by rw [bs_size,hl],fun i hi=>?_⟩
 have hX':∀i,((X.drop off).take len).getD i 0<256:=fun i=>by
  simp only [List.getD_eq_getElem?_getD,List.getElem?_take,List.getElem?_drop]
  split
  ·have:=hX (off+i);rwa [List.getD_eq_getElem?_getD]at this
  ·decide
 rw [nl_bs _ hX',cn_get _ _ _ (by omega)]
 congr 3
 simp only [List.getD_eq_getElem?_getD,List.getElem?_take,if_pos hi,List.getElem?_drop]
theorem str_all {X:List Nat}{n:Nat}(hn:X.length=n)(hX:∀i,X.getD i 0<256):StrAt (cn .u8 X) 0 n (bs X):=by
 have:=str_part (off:=0) (len:=n) hn hX (by omega)
 rwa [List.drop_zero,List.take_of_length_le (by omega)]at this
theorem byte_bs {X:List Nat}(hX:∀i,X.getD i 0<256)(i:Nat):(nl (bs X)).getD i 0=X.getD i 0:=by rw [nl_bs X hX]
theorem bs_from (X:List Nat)(i:Nat):(bs X).extract i (bs X).size=bs (X.drop i):=by
 rw [bs_extract,bs_size,List.take_length]
theorem len_cut {X:List Nat}{n off len:Nat}(hn:X.length=n)(h:off+len≤n):((X.drop off).take len).length=len:=by simp;omega
theorem cut_lt2 {X:List Nat}{B off len:Nat}(hX:∀i,X.getD i 0<B)(i:Nat):((X.drop off).take len).getD i 0<B:=by
 simp only [List.getD_eq_getElem?_getD,List.getElem?_take,List.getElem?_drop]
 have h0:0<B:=Nat.lt_of_le_of_lt (Nat.zero_le _) (hX 0)
 split
 ·have:=hX (off+i);rwa [List.getD_eq_getElem?_getD]at this
 ·exact h0
theorem part_cut {k:IntKind}{X:List Nat}{n off len:Nat}(hn:X.length=n)(h:off+len≤n):PartAt (cn k X) off (cn k ((X.drop off).take len)):=fun j v hv=>by
 have hl:((X.drop off).take len).length=len:=len_cut hn h
 rcases Nat.lt_or_ge j len with hj | hj
 ·rw [cn_get _ _ _ (by omega)]at hv
  rw [cn_get _ _ _ (by omega),←hv]
  congr 3
  simp only [List.getD_eq_getElem?_getD,List.getElem?_take,if_pos hj,List.getElem?_drop]
 ·rw [Array.getElem?_eq_none (by rw [cZ,hl];exact hj)]at hv;cases hv
def opAt (f:Func)(rid i:Nat):Oper:=match rgOf f rid with | .region _ ops _=>(ops[i]?).getD default | _=>default
section
variable {P:Program} {a:Act} {w0 w:World} {Q:Exit→Act→World→Prop} {n:Nat} {l:Slots} {L:Blks} {S:Nat→Prop} {R:List Row}
theorem wp_mid {A B:Code}(R:Act→World→Prop)(hA:A.wp P (Exit.then R Q) a w)(hB:∀a w,R a w→B.wp P Q a w):(Code.seq A B).wp P Q a w:=
 wp_seq (wp_mono hA fun e a w h=>by
  cases e with
  | normal=>exact hB a w h
  | exit i=>exact h
  | goto i=>exact h
  | ret=>exact h
  | panic c=>exact h
  | outgrown=>exact h)
theorem iR {id:Nat}(h:Q .ret a w):Exit.inBlock id Q .ret a w:=h
theorem wp_for2w {id id' t:Nat}{c body:Code}(I:Act→World→Prop)(μ:Act→World→Nat)(h0:I a w)
  (H:∀a w,I a w→c.wp P (Exit.then (fun a1 w1=>(a1.eval (.tmp t)=.bool true∧body.wp P (Exit.inBlock id' (Exit.then (fun a' w'=>I a' w'∧μ a' w'<μ a w) (Exit.inBlock id Q))) a1 w1)∨
   (a1.eval (.tmp t)=.bool false∧Q .normal a1 w1)) (Exit.inBlock id Q)) a w) :
  (Code.block id (.loop (.seq (.seq c (.cond (.tmp t) .skip (.exit id))) (.block id' body)))).wp P Q a w:=by
 refine wp_block (wp_loop I μ h0 fun a w hI=>wp_seq (wp_seq (wp_mono (H a w hI) fun e a1 w1 h=>?_)))
 cases e with
 | normal=>
  rcases h with⟨ht,hb⟩ | ⟨hf,hq⟩
  ·exact wp_cond_true ht (wp_skip (wp_block hb))
  ·exact wp_cond_false hf (wp_exit ((inb_exit _ _ _ _).2 hq))
 | exit i=>exact h
 | goto i=>exact h
 | ret=>exact h
 | panic c=>exact h
 | outgrown=>exact h
def nodupB:List Nat→Bool
 | []=>true
 | x::r=>match memB x r with | true=>false | false=>nodupB r
theorem nodupB_get:∀(is:List Nat),nodupB is=true→∀(i j:Nat) (x:Nat),is[i]? = some x→is[j]? = some x→i=j
 | [],_,i,_,_,h,_=>by simp at h
 | y::r,hn,i,j,x,hi,hj=>by
  unfold nodupB at hn
  split at hn
  ·cases hn
  ·rename_i hm
   have hy:=memB_false r hm
   cases i with
   | zero=>
    simp at hi
    cases j with
    | zero=>rfl
    | succ j=>exact(hy (hi▸List.mem_of_getElem? (by simpa using hj))).elim
   | succ i=>
    cases j with
    | zero=>
     simp at hj
     exact(hy (hj▸List.mem_of_getElem? (by simpa using hi))).elim
    | succ j=>rw [nodupB_get r hn i j x (by simpa using hi) (by simpa using hj)]
def pickB (L:Blks):List Nat→Blks
 | []=>[]
 | i::r=>match L[i]? with | some x=>x::pickB L r | none=>pickB L r
theorem pickB_get (L:Blks):∀(is:List Nat) (k:Nat) (x:Nat×Obj),(pickB L is)[k]? = some x→∃k' i,k≤k'∧is[k']? = some i∧L[i]? = some x∧∀(j:Nat) (y:Nat×Obj),(pickB L is)[j]? = some y→j≠k→∃j' i',is[j']? = some i'∧L[i']? = some y∧j'≠k'
 | [],_,_,h=>by simp [pickB]at h
 | i::r,k,x,h=>by
  cases hL:L[i]? with
  | none=>
   have e:pickB L (i::r)=pickB L r:=by simp [pickB,hL]
   rw [e]at h ⊢
   obtain⟨k',i',h0,h1,h2,h3⟩:=pickB_get L r k x h
   exact⟨k'+1,i',by omega,by simpa using h1,h2,fun j y hj hne=>by
    obtain⟨j',i'',q1,q2,q3⟩:=h3 j y hj hne
    exact⟨j'+1,i'',by simpa using q1,q2,by omega⟩⟩
  | some z=>
   have e:pickB L (i::r)=z::pickB L r:=by simp [pickB,hL]
   rw [e]at h ⊢
   cases k with
   | zero=>
    simp at h
    subst h
    refine⟨0,i,Nat.le_refl _,rfl,hL,fun j y hj hne=>?_⟩
    cases j with
    | zero=>exact(hne rfl).elim
    | succ j=>
     obtain⟨k',i',h0,h1,h2,_⟩:=pickB_get L r j y (by simpa using hj)
     exact⟨k'+1,i',by simpa using h1,h2,by omega⟩
   | succ k=>
    obtain⟨k',i',h0,h1,h2,h3⟩:=pickB_get L r k x (by simpa using h)
    refine⟨k'+1,i',by omega,by simpa using h1,h2,fun j y hj hne=>?_⟩
    cases j with
    | zero=>
     simp at hj
     subst hj
     exact⟨0,i,rfl,hL,by omega⟩
    | succ j=>
     obtain⟨j',i'',q1,q2,q3⟩:=h3 j y (by simpa using hj) (by omega)
     exact⟨j'+1,i'',by simpa using q1,q2,by omega⟩
theorem MemS.sub (M:MemS S w0 w L R)(is:List Nat)(h:nodupB is=true):MemS S w0 w (pickB L is) R:=by
 refine⟨M.os,M.tape,M.output,M.size,M.block,M.old,fun k x hx=>?_,fun j k x y hx hy hjk=>?_,fun k x hx=>?_,M.rows,fun q hq g hg x hx=>?_,M.rowsR⟩
 ·obtain⟨k',i,_,_,h2,_⟩:=pickB_get L is k x hx;exact M.has i x h2
 ·obtain⟨j',i,_,h1,h2,h3⟩:=pickB_get L is j x hx
  obtain⟨k',i',q1,q2,q3⟩:=h3 k y hy (Ne.symm hjk)
  exact M.apart i i' x y h2 q2 (fun e=>q3 (nodupB_get is h k' j' i' q1 (e▸h1)))
 ·obtain⟨k',i,_,_,h2,_⟩:=pickB_get L is k x hx;exact M.base i x h2
 ·obtain⟨k,hk⟩:=List.mem_iff_getElem?.1 hx
  obtain⟨k',i,_,_,h2,_⟩:=pickB_get L is k x hk
  exact M.rowsL q hq g hg x (List.mem_of_getElem? h2)
theorem ret_none {fn:Func}{R:Ending→World→Prop}(F:Fr n a l)(hf:fn.results=#[])(hR:R (.returned (.tuple #[])) w):bodyPost P fn R .ret a w:=
 bodyPost_ret (v:=.tuple #[]) (by simp [results,hf]) F.defers hR
theorem ret_tup2 {fn:Func}{R:Ending→World→Prop}{t u:Nat}{x y:Value}(F:Fr n a l)(i j:Nat)(hf:fn.results=#[.tmp t,.tmp u])(h1:l[i]? = some (t,x))(h2:l[j]? = some (u,y))(hR:R (.returned (.tuple #[x,y])) w):bodyPost P fn R .ret a w:=
 bodyPost_ret (v:=.tuple #[x,y]) (by simp [results,hf,F.get i h1,F.get j h2]) F.defers hR
theorem retc {fn:Func}{R':Ending→World→Prop}{t b k i j:Nat}{ty T:TypeId}{cs:Array Value}{dd:TypeDesc}(F:Fr n a l)(M:MemS S w0 w L R)(hf:fn.results=#[.cell t ty])(ht:l[j]? = some (t,.pointer (some ⟨b,0,none⟩)))(hb:L[i]? = some (b,.cells cs T))
  (hu:P.underlying ty=some dd) (hdd:dd.isRow=true) (hi:(P.info? ty).map (·.size)=some k) (hk:cs.size=k) (hR:R' (.returned (.agg cs)) w):bodyPost P fn R' .ret a w:=
 bodyPost_ret (v:=.agg cs) (results_blk hf (F.get j ht) (M.get i hb) hu hdd hi hk) F.defers hR
def strLen (t:Nat)(a:Act):Nat:=match a.tmps[t]? with | some (.string s)=>s.size | _=>0
theorem strLen_of {t:Nat}{s:ByteArray}(h:a.tmps[t]? = some (.string s)):strLen t a=s.size:=by unfold strLen;rw [h]
theorem cP {f:FuncId}{args:List Value}{v:Value}(he:Enters P f)(h:∀w,Calls P f args.toArray w fun e w'=>e=.returned v∧Below w.heap.size w w')(L:Blks):CallP P f args L v:=⟨he,fun w _=>h w⟩
theorem MemS.post1 {b:Nat}{o:Obj}{v:Nat→Value}(M:MemS (fun k=>k<w0.heap.size∧k≠b) w0 w L R)(i:Nat)(h:L[i]? = some (b,o)){L0:Blks}{j:Nat}{o0:Obj}(h0:L0[j]? = some (b,o0)):Post w0 w L0 ⟨v,none,[(j,o)]⟩ 0:=
 ⟨M.os,M.tape,M.output,M.size,fun k hk hn=>M.block k ⟨hk,fun e=>hn (j,o) (List.mem_singleton.2 rfl) (b,o0) h0 e.symm⟩,fun _ h=>(nomatch h),fun _=>rfl,fun u hu y hy=>by
  obtain rfl:u=(j,o):=by simpa using hu
  simp only at hy
  rw [h0]at hy
  obtain rfl:=Option.some.inj hy
  exact M.get i h⟩
theorem cat_l {c d:Array Value}{i:Nat}(h:i<c.size):(c++d)[i]? = c[i]?:=Array.getElem?_append_left h
theorem cat_r {c d:Array Value}{k i:Nat}(j:Nat)(h:c.size=k)(hi:i=k+j):(c++d)[i]? = d[j]?:=by
 subst h hi
 rw [Array.getElem?_append_right (by omega)]
 congr 1
 omega
theorem cat_set_l {c d:Array Value}{i:Nat}{v:Value}(h:i<c.size):(c++d).setIfInBounds i v=c.setIfInBounds i v++d:=by
 apply Array.ext_getElem?
 intro j
 rw [Array.getElem?_setIfInBounds]
 by_cases e:i=j
 ·subst e
  rw [if_pos rfl,if_pos (by simp;omega),Array.getElem?_append_left (by simpa using h)]
  simp [h]
 ·rw [if_neg e]
  rcases Nat.lt_or_ge j c.size with hj | hj
  ·rw [Array.getElem?_append_left hj,Array.getElem?_append_left (by simpa using hj)]
   simp [Array.getElem?_setIfInBounds_ne e]
  ·rw [Array.getElem?_append_right hj,Array.getElem?_append_right (by simpa using hj)]
   simp
theorem cat_set_r {c d:Array Value}{k i:Nat}{v:Value}(j:Nat)(h:c.size=k)(hi:i=k+j):(c++d).setIfInBounds i v=c++d.setIfInBounds j v:=by
 subst h hi
 apply Array.ext_getElem?
 intro q
 rw [Array.getElem?_setIfInBounds]
 rcases Nat.lt_or_ge q c.size with hq | hq
 ·rw [if_neg (by omega),Array.getElem?_append_left hq,Array.getElem?_append_left hq]
 ·rw [Array.getElem?_append_right hq,Array.getElem?_append_right hq,Array.getElem?_setIfInBounds]
  by_cases e:c.size+j=q
  ·subst e
   simp
  ·rw [if_neg e,if_neg (by omega)]
theorem part_l {c d ps:Array Value}{off:Nat}(h:PartAt c off ps):PartAt (c++d) off ps:=fun j v hv=>by
 have:=h j v hv
 have hlt:off+j<c.size:=by
  rcases Nat.lt_or_ge (off+j) c.size with h' | h'
  ·exact h'
  ·rw [Array.getElem?_eq_none h']at this;cases this
 rw [Array.getElem?_append_left hlt];exact this
theorem pW (c:Array Value):PartAt c 0 c:=fun j v hv=>by rw [Nat.zero_add];exact hv
theorem part_r {c d ps:Array Value}{k off:Nat}(o:Nat)(hc:c.size=k)(ho:off=k+o)(h:PartAt d o ps):PartAt (c++d) off ps:=fun j v hv=>by
 subst hc ho
 rw [cat_r (o+j) rfl (by omega)]
 exact h j v hv
theorem MemS.below1 {b:Nat}{o:Obj}(M:MemS (fun k=>k<w0.heap.size∧k≠b) w0 w L R)(i:Nat)(h:L[i]? = some (b,o))(h0:w0.heap[b]? = some o):Below w0.heap.size w0 w:=
 ⟨M.os,M.tape,M.output,M.size,fun k hk=>by
  by_cases e:k=b
  ·subst e;rw [M.get i h,h0]
  ·exact M.block k ⟨hk,e⟩⟩
def bcells (X:List Nat):List Value:=X.map fun x=>.int .u8 (x:Nat)
theorem bytes_take (X:List Nat)(hX:∀i,X.getD i 0<256)(n:Nat):((bs X).extract 0 n).data.map (fun b=>Value.int .u8 (b.toNat:Int))=(bcells (X.take n)).toArray:=by
 rw [bs_extract]
 apply Array.toList_inj.1
 simp only [bs,bcells,List.drop_zero,List.map_toArray,List.map_map]
 refine List.map_congr_left fun x hx=>?_
 obtain⟨i,hi,rfl⟩:=List.mem_iff_getElem.1 (List.mem_of_mem_take hx)
 have:=hX i
 rw [List.getD_eq_getElem?_getD,List.getElem?_eq_getElem hi]at this
 simp at this
 simp [Nat.mod_eq_of_lt this]
theorem post_cells {i b off:Nat}{cs cs':Array Value}{T:TypeId}{fr:Nat×Nat}{v:Nat→Value}{us:List Value}(hL:L[i]? = some (b,.cells cs T fr))(H:Has w L)(hd:setFrom cs off us=cs') :
  Post w (w.setCells b off us) L ⟨v,none,[(i,.cells cs' T fr)]⟩ 0:=by
 have hb:Below 0 w (w.setCells b off us):=below_setCells (Nat.zero_le _) us off w (Below.refl _ _)
 refine⟨hb.os,hb.tape,hb.output,by rw [size_setCells];exact Nat.le_refl _,fun k _ hn=>?_,fun o h=>(nomatch h),fun _=>rfl,fun u hu y hy=>?_⟩
 ·exact heap_setCells_ne (fun e=>hn (i,.cells cs' T fr) (List.mem_singleton.2 rfl) _ hL e.symm) us off w
 ·obtain rfl:u=_:=by simpa using hu
  simp only at hy
  rw [hL]at hy
  obtain rfl:=Option.some.inj hy
  rw [heap_setCells us off w cs (H i _ hL),hd]
theorem copyStr_ok {o:Oper}{p q:Operand}{t tq e T:TypeId}{b off len cap i:Nat}{X:List Nat}{cs cs':Array Value}(ho:o.op=.call ⟨.builtin .copy,#[p,q],#[t,tq]⟩)(hp:evO l p=some (.slice (some ⟨b,off,none⟩) len cap))(hq:evO l q=some (.string (bs X)))
  (hX:∀i,X.getD i 0<256) (hu:P.underlying t=some (.slice e)) (he:szOf P e=some 1) (hL:L[i]? = some (b,.cells cs T)) (hle:off+len≤cs.size) (hcs:setFrom cs off (bcells (X.take len))=cs') :
  RunU P l L o (.int .i64 (min X.length len:Nat)) [(i,.cells cs' T)]:=fun ρ w A H=>by
 obtain⟨ii,hi',hsz⟩:=szOf_some he
 have hH:=H i _ hL
 have hn:min X.length len≤len:=Nat.min_le_right _ _
 have ht:X.take (min X.length len)=X.take len:=by
  rcases Nat.le_total X.length len with h | h
  ·rw [Nat.min_eq_left h,List.take_length,List.take_of_length_le h]
  ·rw [Nat.min_eq_right h]
 have hlen:(bcells (X.take len)).length≤len:=by simp [bcells];omega
 have hst:=run_storeCells_cells (P:=P) b off (bcells (X.take len)) 0 w (fun j hj=>by
   rw [cell_of hH];simp;omega) (fun j hj=>by rw [frozen_of hH]) (fun v hv=>by
   obtain⟨x,_,rfl⟩:=List.mem_map.1 hv;rfl)
 refine⟨w.setCells b off (bcells (X.take len)),.inl ?_,post_cells hL H hcs⟩
 have h1:=A p _ hp
 have h2:=A q _ hq
 simp only [Nat.add_zero]at hst
 have hb:=bytes_take X hX (min X.length len)
 rw [ht]at hb
 have hl:(Builtin.lenOf (.string (bs X))).run P w=.ok X.length w:=by simp [Builtin.lenOf,bs_size]
 have hf:(Builtin.firstCells ii.size (Nat.min X.length len) (.string (bs X))).run P w=.ok (bcells (X.take len)).toArray w:=by
  rw [←hb];rfl
 simp [execOp,ho,resolve,invoke,builtin,h1,h2,Builtin.copy_,run_underlying hu,hl,hf,run_sizeOf hi',hst,goInt]
theorem setFrom_cat {Y Z:List Nat}{d:Array Value}{k:Nat}(h:k+Z.length≤Y.length):setFrom (cn .u8 Y++d) k (bcells Z)=cn .u8 (Y.take k++Z++Y.drop (k+Z.length))++d:=by
 apply Array.ext_getElem?
 intro j
 have hz:(bcells Z).length=Z.length:=by simp [bcells]
 have hl:(Y.take k++Z++Y.drop (k+Z.length)).length=Y.length:=by simp;omega
 rw [setFrom_get,hz]
 have hY:(cn .u8 Y++d).size=Y.length+d.size:=by simp [cZ]
 rw [hY]
 rcases Nat.lt_or_ge j Y.length with hj | hj
 ·rw [cat_l (c:=cn .u8 (Y.take k++Z++Y.drop (k+Z.length))) (by rw [cZ,hl];exact hj),cn_get _ _ _ (by rw [hl];exact hj)]
  by_cases h1:k≤j∧j<k+Z.length
  ·rw [if_pos ⟨h1.1,h1.2,by omega⟩]
   simp only [bcells,List.getElem?_map,List.getD_eq_getElem?_getD]
   rw [List.getElem?_append_left (by simp;omega),List.getElem?_append_right (by simp;omega)]
   simp only [List.length_take]
   rw [show min k Y.length=k by omega,List.getElem?_eq_getElem (show j-k<Z.length by omega)]
   simp
  ·rw [if_neg (by omega),cat_l (by rw [cZ];exact hj),cn_get _ _ _ hj]
   congr 3
   simp only [List.getD_eq_getElem?_getD]
   rcases Nat.lt_or_ge j k with h2 | h2
   ·rw [List.getElem?_append_left (by simp;omega),List.getElem?_append_left (by simp;omega),List.getElem?_take,if_pos h2]
   ·rw [List.getElem?_append_right (by simp;omega),List.getElem?_drop]
    congr 2
    simp;omega
 ·rw [if_neg (by omega),cat_r (c:=cn .u8 Y) (j-Y.length) (cZ _ _) (by omega),cat_r (c:=cn .u8 (Y.take k++Z++Y.drop (k+Z.length))) (j-Y.length) ((cZ _ _).trans hl) (by omega)]
end
abbrev Fr.env {n:Nat}{a:Act}{l:List (Nat×Value)}(_:Fr n a l):Slots:=l
abbrev pT (b:Nat):Value:=.pointer (some ⟨b,0,none⟩)
abbrev iN (n:Nat):Value:=.int .i64 (n:Nat)
abbrev iW (n:Nat):Value:=.int .u64 (n:Nat)
abbrev iB (n:Nat):Value:=.int .u8 (n:Nat)
abbrev sB (X:List Nat):Value:=.string (bs X)
abbrev oC (c:Array Value)(T:TypeId):Obj:=.cells c T
abbrev aG (c:Array Value):Value:=.agg c
end Go.Proofs.YtdokjecjiifciaaGreatDoor
namespace Go.Proofs.YtdokjecjiifciaaGreatDoor
open Go.RowKit
section
variable {P:Program} {ops:Array Oper} {Q:Exit→Act→World→Prop}
theorem region_inv {I:Array Bool→Act→World→Prop}{a0:Act}{wS:World}{id:Nat}(hm:P.follows .mixedOrders=true)
  (hback:(List.range ops.size).all (fun i=>((ops[i]?).map fun o=>(depsOf o).all fun j=>decide (j<i)).getD true)=true)
  (h0:I (Array.replicate ops.size false) a0 { wS with drawn:=wS.drawn+1 })
  (step:∀(listed:Array Bool) (a:Act) (w:World) (i:Nat) (o:Oper),listed.size=ops.size→I listed a w→ops[i]? = some o→listed.getD i false=false→(∀j∈depsOf o,listed.getD j false=true)→
   Region.wanted o (yielded ops a.tmps)=true∧o.wp P a w (fun a' w'=>I (listed.setIfInBounds i true) a' w') Q)
  (fin:∀(listed:Array Bool) (a:Act) (w:World),I listed a w→(∀j,j<ops.size→listed.getD j false=true)→Q .normal a w):(Code.region id ops true).wp P Q a0 wS:=by
 have back:∀i o,ops[i]? = some o→∀j∈depsOf o,j<i:=fun i o hi j hj=>by
  have hlt:i<ops.size:=by
   rcases Nat.lt_or_ge i ops.size with h' | h'
   ·exact h'
   ·rw [Array.getElem?_eq_none h']at hi;cases hi
  have:=List.all_eq_true.1 hback i (List.mem_range.2 hlt)
  rw [hi]at this
  simpa using List.all_eq_true.1 this j hj
 have done:∀listed:Array Bool,listed.size=ops.size→Region.ready .any ops listed=[]→∀j,j<ops.size→listed.getD j false=true:=fun listed hs hr j=>by
  induction j using Nat.strongRecOn with
  | ind j ih=>
   intro hj
   cases hl:listed.getD j false with
   | true=>rfl
   | false=>
    have hmem:j∈Region.ready .any ops listed:=ready_iff.2 ⟨getD_true_of (by rw [hs];exact hj) hl,ops[j],by simp [hj],fun i hi=>by
     have:=back j ops[j] (by simp [hj]) i hi
     exact ih i this (by omega)⟩
    rw [hr]at hmem
    cases hmem
 have main:∀(fuel:Nat) (listed:Array Bool) (a:Act) (w:World),listed.size=ops.size→I listed a w→(leftOf ops.size listed).length≤fuel→wpAny P .any ops Q fuel listed a w:=by
  intro fuel
  induction fuel with
  | zero=>
   intro listed a w hs hI hf
   have hnil:leftOf ops.size listed=[]:=List.eq_nil_of_length_eq_zero (by omega)
   have hall:∀j,j<ops.size→listed.getD j false=true:=fun j hj=>by
    cases hl:listed.getD j false with
    | true=>rfl
    | false=>
     have:j∈leftOf ops.size listed:=by unfold leftOf;rw [List.mem_filter];exact⟨List.mem_range.2 hj,by rw [hl];rfl⟩
     rw [hnil]at this;cases this
   refine⟨List.eq_nil_iff_forall_not_mem.2 fun j hj=>?_,fin listed a w hI hall⟩
   obtain⟨h0,o,ho,_⟩:=ready_iff.1 hj
   obtain⟨h1,h2⟩:=getD_false_of h0
   rw [hall j (by rw [←hs];exact h2)]at h1
   cases h1
  | succ fuel ih=>
   intro listed a w hs hI hf
   refine⟨fun hr=>fin listed a w hI (done listed hs hr),fun i hi=>?_⟩
   obtain⟨h0,o,ho,hd⟩:=ready_iff.1 hi
   obtain⟨hu,hil⟩:=getD_false_of h0
   rw [hs]at hil
   obtain⟨hw,hwp⟩:=step listed a w i o hs hI ho hu hd
   unfold wpOp
   simp only [ho]
   rw [if_pos hw]
   refine Or.inl (Oper.wp_mono (fun a' w' hI'=>?_) hwp)
   exact ih _ _ _ (by simp [hs]) hI' (by have:=left_set hs hil hu;omega)
 refine wp_region_any hm (main ops.size _ a0 _ (by simp) h0 ?_)
 unfold leftOf
 exact Nat.le_trans (List.length_filter_le _ _) (by simp)
end
end Go.Proofs.YtdokjecjiifciaaGreatDoor
namespace Go.Proofs.YtdokjecjiifciaaGreatDoor
open Go.RowKit
abbrev Lay:Type:=Value⊕((Obj×(Nat→Value)×Option (Nat×Obj))⊕Nat)
abbrev lval (v:Value):Lay:=.inl v
abbrev lnew (o:Obj)(mk:Nat→Value)(st:Option (Nat×Obj)):Lay:=.inr (.inl (o,mk,st))
abbrev lsto (k:Nat):Lay:=.inr (.inr k)
def isNewL:Lay→Bool
 | .inr (.inl _)=>true
 | _=>false
def valueL (b:Nat):Lay→Value
 | .inl v=>v
 | .inr (.inl (_,mk,_))=>mk b
 | .inr (.inr _)=>undef
theorem layCases {motive:Lay→Prop}(val:∀v,motive (lval v))(new:∀ob mk st,motive (lnew ob mk st))(sto:∀k,motive (lsto k)):∀s,motive s
 | .inl v=>val v
 | .inr (.inl (ob,mk,st))=>new ob mk st
 | .inr (.inr k)=>sto k
def layB (l:List Oper)(specs:List Lay)(size:Nat):Bool:=
 (List.range l.length).all (fun i=>((l[i]?).map fun o=>(depsOf o).all fun j=>decide (j<i)).getD true) &&
 (List.range l.length).all (fun i=>match(l[i]?).bind (·.dst)with | some d=>decide (d<size)&&(List.range l.length).all (fun j=>j == i || ((l[j]?).bind (·.dst)) != some d) | none=>true) &&
 (List.range specs.length).all (fun k=>match specs[k]? with | some (.inr (.inl (_,_,some (s,_))))=>(match specs[s]? with | some (.inr (.inr k'))=>k' == k | _=>false) | _=>true) &&
 (List.range specs.length).all (fun k=>match specs[k]? with | some (.inr (.inl _))=>((l[k]?).bind (·.dst)).isSome | _=>true) &&
 (l.length == specs.length)
structure LayGood (ops:Array Oper)(specs:List Lay)(size:Nat):Prop where
 back:(List.range ops.size).all (fun i=>((ops[i]?).map fun o=>(depsOf o).all fun j=>decide (j<i)).getD true)=true
 own:∀(i:Nat) o d,ops[i]? = some o→o.dst=some d→d<size∧∀(j:Nat) o',j≠i→ops[j]? = some o'→o'.dst≠some d
 st:∀(k:Nat) ob mk s ob',specs[k]? = some (lnew ob mk (some (s,ob')))→specs[s]? = some (lsto k)
 dst:∀(k:Nat) ob mk st o,specs[k]? = some (lnew ob mk st)→ops[k]? = some o→∃d,o.dst=some d
 len:ops.size=specs.length
section
variable {P:Program} {ops:Array Oper} {Q:Exit→Act→World→Prop}
theorem layGood_of {specs:List Lay}{size:Nat}(h:layB ops.toList specs size=true):LayGood ops specs size:=by
 unfold layB at h
 simp only [Bool.and_eq_true]at h
 obtain⟨⟨⟨⟨h1,h2⟩,h3⟩,h4⟩,h5⟩:=h
 have lt_of:∀{i:Nat} {o:Oper},ops[i]? = some o→i<ops.size:=fun{i o} hi=>by
  rcases Nat.lt_or_ge i ops.size with h' | h'
  ·exact h'
  ·rw [Array.getElem?_eq_none h']at hi;cases hi
 have lt_of':∀{i:Nat} {o:Lay},specs[i]? = some o→i<specs.length:=fun{i o} hi=>by
  rcases Nat.lt_or_ge i specs.length with h' | h'
  ·exact h'
  ·rw [List.getElem?_eq_none h']at hi;cases hi
 refine⟨by simpa using h1,fun i o d hi hd=>?_,fun k ob mk s ob' hk=>?_,fun k ob mk st o hk ho=>?_,by simpa using h5⟩
 ·have:=List.all_eq_true.1 h2 i (List.mem_range.2 (by simpa using lt_of hi))
  simp only [Array.getElem?_toList,hi,Option.bind_some,hd,Bool.and_eq_true,decide_eq_true_eq]at this
  refine⟨this.1,fun j o' hj ho'=>?_⟩
  have:=List.all_eq_true.1 this.2 j (List.mem_range.2 (by simpa using lt_of ho'))
  simpa [hj,ho']using this
 ·have:=List.all_eq_true.1 h3 k (List.mem_range.2 (lt_of' hk))
  simp only [hk]at this
  cases hs:specs[s]? with
  | none=>rw [hs]at this;cases this
  | some x=>
   rw [hs]at this
   cases x using layCases with
   | sto k'=>simp at this;rw [this]
   | val _=>cases this
   | new _ _ _=>cases this
 ·have:=List.all_eq_true.1 h4 k (List.mem_range.2 (lt_of' hk))
  simp only [hk,Array.getElem?_toList,ho,Option.bind_some]at this
  exact Option.isSome_iff_exists.1 this
def contOf (listed:Array Bool)(ob:Obj):Option (Nat×Obj)→Obj
 | none=>ob
 | some (s,ob')=>if listed.getD s false=true then ob' else ob
structure LInv (ops:Array Oper)(specs:List Lay)(W:World)(a0:Act)(listed:Array Bool)(a:Act)(w:World)(b:Nat→Nat):Prop where
 below:Below W.heap.size W w
 defers:a.defers=a0.defers
 tsz:a.tmps.size=a0.tmps.size
 down:∀(i:Nat) o,ops[i]? = some o→listed.getD i false=true→∀j∈depsOf o,listed.getD j false=true
 keep:∀t:Nat,(∀(i:Nat) o,ops[i]? = some o→listed.getD i false=true→o.dst≠some t)→a.tmps[t]? = a0.tmps[t]?
 val:∀(i:Nat) o d v,specs[i]? = some (lval v)→ops[i]? = some o→o.dst=some d→listed.getD i false=true→a.tmps[d]? = some v
 new:∀(i:Nat) o d ob mk st,specs[i]? = some (lnew ob mk st)→ops[i]? = some o→o.dst=some d→listed.getD i false=true→
  a.tmps[d]? = some (mk (b i))∧W.heap.size≤b i∧w.heap[b i]? = some (contOf listed ob st)
 free:∀(i j:Nat) s s',specs[i]? = some s→specs[j]? = some s'→isNewL s=true→isNewL s'=true→i≠j→listed.getD i false=true→listed.getD j false=true→b i≠b j
def LDeps (ops:Array Oper)(specs:List Lay)(W:World)(o:Oper)(a:Act)(w:World):Prop:=
 ∀j,(depsOf o).contains j=true→match(ops[j]?).bind (·.dst),specs[j]? with
  | some d,some (.inl v)=>a.tmps[d]? = some v
  | some d,some (.inr (.inl (ob,mk,st)))=>∃b,a.tmps[d]? = some (mk b)∧W.heap.size≤b∧(st=none→w.heap[b]? = some ob)
  | _,_=>True
def LOk (P:Program)(Q:Exit→Act→World→Prop)(ops:Array Oper)(specs:List Lay)(i:Nat)(o:Oper)(a:Act)(w:World):Lay→Prop
 | .inl v=>OpOk 0 P Q ops o (.inl v) false a w
 | .inr (.inl (ob,mk,_))=>Region.wanted o (yielded ops a.tmps)=true∧(execOp a.eval o).run P w=.ok (.value (mk w.heap.size)) (w.alloc ob)
 | .inr (.inr k)=>∃(t sv:Nat) (T:TypeId) (z vs:Array Value) (j:Nat),o.dst=none∧o.guard=none∧o.op=.store T (.tmp t) (.tmp sv)∧(depsOf o).contains k=true∧(ops[k]?).bind (·.dst)=some t∧
   specs[k]? = some (lnew (.cells z T) (fun b=>.pointer (some ⟨b,0,none⟩)) (some (i,.cells vs T)))∧(depsOf o).contains j=true∧(ops[j]?).bind (·.dst)=some sv∧specs[j]? = some (lval (.agg vs))∧
   z.size=vs.size∧vs.all (·.oneCell')=true∧(P.info? T).map (·.size)=some vs.size
def LAll (P:Program)(Q:Exit→Act→World→Prop)(W:World)(ops:Array Oper)(a0:Act)(specs:List Lay):List Oper→List Lay→Nat→Prop
 | o::l,s::ss,k=>(∀a w,Below W.heap.size W w→(∀t:Nat,(ops.toList.all fun o=>o.dst != some t)=true→a.tmps[t]? = a0.tmps[t]?)→LDeps ops specs W o a w→LOk P Q ops specs k o a w s)∧LAll P Q W ops a0 specs l ss (k+1)
 | _,_,_=>True
theorem LAll_get {W:World}{a0:Act}{specs:List Lay}:∀(l:List Oper) (ss:List Lay) (k:Nat),LAll P Q W ops a0 specs l ss k→∀(i:Nat) o s,l[i]? = some o→ss[i]? = some s→
  ∀a w,Below W.heap.size W w→(∀t:Nat,(ops.toList.all fun o=>o.dst != some t)=true→a.tmps[t]? = a0.tmps[t]?)→LDeps ops specs W o a w→LOk P Q ops specs (k+i) o a w s
 | [],_,_,_,i,o,s,h,_=>by simp at h
 | _::_,[],_,_,i,o,s,_,h=>by simp at h
 | x::l,y::ss,k,hA,0,o,s,h1,h2=>by
  simp at h1 h2
  subst h1 h2
  exact hA.1
 | x::l,y::ss,k,hA,i+1,o,s,h1,h2=>by
  have:=LAll_get l ss (k+1) hA.2 i o s (by simpa using h1) (by simpa using h2)
  rw [show k+1+i=k+(i+1)by omega]at this
  exact this
def lvals:List Lay→(Nat→Nat)→Nat→List Value
 | [],_,_=>[]
 | s::l,b,k=>valueL (b k) s::lvals l b (k+1)
def lfacts (base:Nat)(w:World):List Lay→(Nat→Nat)→Nat→Prop
 | [],_,_=>True
 | .inr (.inl (ob,_,none))::l,b,k=>(base≤b k∧w.heap[b k]? = some ob)∧lfacts base w l b (k+1)
 | .inr (.inl (_,_,some (_,ob)))::l,b,k=>(base≤b k∧w.heap[b k]? = some ob)∧lfacts base w l b (k+1)
 | _::l,b,k=>lfacts base w l b (k+1)
theorem lvals_get:∀(specs:List Lay) (b:Nat→Nat) (k i:Nat) s,specs[i]? = some s→(lvals specs b k)[i]? = some (valueL (b (k+i)) s)
 | [],_,_,_,_,h=>by simp at h
 | x::l,b,k,0,s,h=>by
  simp at h
  subst h
  simp [lvals]
 | x::l,b,k,i+1,s,h=>by
  have:=lvals_get l b (k+1) i s (by simpa using h)
  rw [show k+1+i=k+(i+1)by omega]at this
  simpa [lvals]using this
theorem lvals_len:∀(specs:List Lay) (b:Nat→Nat) (k:Nat),(lvals specs b k).length=specs.length
 | [],_,_=>rfl
 | _::l,b,k=>by simp [lvals,lvals_len l b (k+1)]
theorem lfacts_of (base:Nat)(w:World):∀(specs:List Lay) (b:Nat→Nat) (k:Nat),(∀(i:Nat) ob mk st,specs[i]? = some (lnew ob mk st)→base≤b (k+i)∧w.heap[b (k+i)]? = some (match st with | none=>ob | some (_,ob')=>ob'))→lfacts base w specs b k
 | [],_,_,_=>trivial
 | s::l,b,k,h=>by
  have ih:=lfacts_of base w l b (k+1) fun i ob mk st hi=>by
   have:=h (i+1) ob mk st (by simpa using hi)
   rw [show k+(i+1)=k+1+i by omega]at this
   exact this
  cases s using layCases with
  | val v=>exact ih
  | sto k=>exact ih
  | new ob mk st=>
   have h0:=h 0 ob mk st (by simp)
   rw [Nat.add_zero]at h0
   cases st with
   | none=>exact⟨h0,ih⟩
   | some x=>exact⟨h0,ih⟩
theorem putAll_any (l:List Oper):∀(vs:List Value) (a0:Act),l.length=vs.length→(∀(i:Nat) (o:Oper) (d:Nat),l[i]? = some o→o.dst=some d→d<a0.tmps.size)→
  (∀(i j:Nat) (o o':Oper) (d:Nat),i≠j→l[i]? = some o→l[j]? = some o'→o.dst=some d→o'.dst≠some d)→
  (putAll l vs a0).defers=a0.defers∧(putAll l vs a0).tmps.size=a0.tmps.size∧(∀t:Nat,(∀(i:Nat) (o:Oper),l[i]? = some o→o.dst≠some t)→(putAll l vs a0).tmps[t]? = a0.tmps[t]?)∧
  (∀(i:Nat) (o:Oper) (d:Nat) (v:Value),l[i]? = some o→vs[i]? = some v→o.dst=some d→(putAll l vs a0).tmps[d]? = some v):=by
 induction l with
 | nil=>intro vs a0 h _ _;cases vs <;> simp_all [putAll]
 | cons o l ih=>
  intro vs a0 h h1 h2
  cases vs with
  | nil=>simp at h
  | cons v vs=>
   cases hd:o.dst with
   | none=>
    have hput:a0.put o.dst v=a0:=by rw [hd];rfl
    obtain⟨p1,p2,p3,p4⟩:=ih vs a0 (by simpa using h) (fun i o' d hi=>h1 (i+1) o' d (by simpa using hi)) (fun i j o1 o2 d1 hij hi hj=>h2 (i+1) (j+1) o1 o2 d1 (by omega) (by simpa using hi) (by simpa using hj))
    simp only [putAll,hput]
    refine⟨p1,p2,fun t ht=>p3 t fun i o' hi=>ht (i+1) o' (by simpa using hi),fun i o' d' v' hi hv hd'=>?_⟩
    cases i with
    | zero=>simp at hi;subst hi;rw [hd]at hd';cases hd'
    | succ i=>exact p4 i o' d' v' (by simpa using hi) (by simpa using hv) hd'
   | some d=>
    have hlt:=h1 0 o d (by simp) hd
    have hput:a0.put o.dst v={ a0 with tmps:=a0.tmps.setIfInBounds d v }:=by rw [hd];rfl
    obtain⟨p1,p2,p3,p4⟩:=ih vs (a0.put o.dst v) (by simpa using h) (fun i o' d' hi hd'=>by
      have:=h1 (i+1) o' d' (by simpa using hi) hd'
      rw [hput];simpa using this) (fun i j o1 o2 d1 hij hi hj=>h2 (i+1) (j+1) o1 o2 d1 (by omega) (by simpa using hi) (by simpa using hj))
    simp only [putAll]
    refine⟨by rw [p1,hput],by rw [p2,hput];simp,fun t ht=>?_,fun i o' d' v' hi hv hd'=>?_⟩
    ·rw [p3 t (fun i o' hi=>ht (i+1) o' (by simpa using hi)),hput]
     have:d≠t:=fun e=>ht 0 o (by simp) (by rw [hd,e])
     simp [Array.getElem?_setIfInBounds_ne this]
    ·cases i with
     | zero=>
      simp at hi hv
      subst hi hv
      rw [hd]at hd'
      cases hd'
      rw [p3 d (fun i o' hi=>fun e=>h2 0 (i+1) o o' d (by omega) (by simp) (by simpa using hi) hd e),hput]
      simp [hlt]
     | succ i=>exact p4 i o' d' v' (by simpa using hi) (by simpa using hv) hd'
theorem region_inv2 {I:Array Bool→Act→World→Prop}{a0:Act}{wS:World}{id:Nat}(hm:P.follows .mixedOrders=true)
  (hback:(List.range ops.size).all (fun i=>((ops[i]?).map fun o=>(depsOf o).all fun j=>decide (j<i)).getD true)=true)
  (h0:I (Array.replicate ops.size false) a0 { wS with drawn:=wS.drawn+1 })
  (step:∀(listed:Array Bool) (a:Act) (w:World) (i:Nat) (o:Oper),listed.size=ops.size→I listed a w→ops[i]? = some o→listed.getD i false=false→(∀j∈depsOf o,listed.getD j false=true)→
   (Region.wanted o (yielded ops a.tmps)=true∧o.wp P a w (fun a' w'=>I (listed.setIfInBounds i true) a' w') Q)∨(Region.wanted o (yielded ops a.tmps)=false∧I (listed.setIfInBounds i true) (a.put o.dst undef) w))
  (fin:∀(listed:Array Bool) (a:Act) (w:World),I listed a w→(∀j,j<ops.size→listed.getD j false=true)→Q .normal a w):(Code.region id ops true).wp P Q a0 wS:=by
 have back:∀i o,ops[i]? = some o→∀j∈depsOf o,j<i:=fun i o hi j hj=>by
  have hlt:i<ops.size:=by
   rcases Nat.lt_or_ge i ops.size with h' | h'
   ·exact h'
   ·rw [Array.getElem?_eq_none h']at hi;cases hi
  have:=List.all_eq_true.1 hback i (List.mem_range.2 hlt)
  rw [hi]at this
  simpa using List.all_eq_true.1 this j hj
 have done:∀listed:Array Bool,listed.size=ops.size→Region.ready .any ops listed=[]→∀j,j<ops.size→listed.getD j false=true:=fun listed hs hr j=>by
  induction j using Nat.strongRecOn with
  | ind j ih=>
   intro hj
   cases hl:listed.getD j false with
   | true=>rfl
   | false=>
    have hmem:j∈Region.ready .any ops listed:=ready_iff.2 ⟨getD_true_of (by rw [hs];exact hj) hl,ops[j],by simp [hj],fun i hi=>by
     have:=back j ops[j] (by simp [hj]) i hi
     exact ih i this (by omega)⟩
    rw [hr]at hmem
    cases hmem
 have main:∀(fuel:Nat) (listed:Array Bool) (a:Act) (w:World),listed.size=ops.size→I listed a w→(leftOf ops.size listed).length≤fuel→wpAny P .any ops Q fuel listed a w:=by
  intro fuel
  induction fuel with
  | zero=>
   intro listed a w hs hI hf
   have hnil:leftOf ops.size listed=[]:=List.eq_nil_of_length_eq_zero (by omega)
   have hall:∀j,j<ops.size→listed.getD j false=true:=fun j hj=>by
    cases hl:listed.getD j false with
    | true=>rfl
    | false=>
     have:j∈leftOf ops.size listed:=by unfold leftOf;rw [List.mem_filter];exact⟨List.mem_range.2 hj,by rw [hl];rfl⟩
     rw [hnil]at this;cases this
   refine⟨List.eq_nil_iff_forall_not_mem.2 fun j hj=>?_,fin listed a w hI hall⟩
   obtain⟨h0,o,ho,_⟩:=ready_iff.1 hj
   obtain⟨h1,h2⟩:=getD_false_of h0
   rw [hall j (by rw [←hs];exact h2)]at h1
   cases h1
  | succ fuel ih=>
   intro listed a w hs hI hf
   refine⟨fun hr=>fin listed a w hI (done listed hs hr),fun i hi=>?_⟩
   obtain⟨h0,o,ho,hd⟩:=ready_iff.1 hi
   obtain⟨hu,hil⟩:=getD_false_of h0
   rw [hs]at hil
   unfold wpOp
   simp only [ho]
   rcases step listed a w i o hs hI ho hu hd with⟨hw,hwp⟩ | ⟨hw,hI'⟩
   ·rw [if_pos hw]
    refine Or.inl (Oper.wp_mono (fun a' w' hI'=>?_) hwp)
    exact ih _ _ _ (by simp [hs]) hI' (by have:=left_set hs hil hu;omega)
   ·rw [if_neg (by rw [hw];decide)]
    exact ih _ _ _ (by simp [hs]) hI' (by have:=left_set hs hil hu;omega)
 refine wp_region_any hm (main ops.size _ a0 _ (by simp) h0 ?_)
 unfold leftOf
 exact Nat.le_trans (List.length_filter_le _ _) (by simp)
theorem region_lay (specs:List Lay){a0:Act}{W:World}{id:Nat}(hm:P.follows .mixedOrders=true)(hG:layB ops.toList specs a0.tmps.size=true)
  (H:LAll P Q W ops a0 specs ops.toList specs 0)
  (K:∀(b:Nat→Nat) w,Below W.heap.size W w→lfacts W.heap.size w specs b 0→(∀(i j:Nat),((specs[i]?).any isNewL)=true→((specs[j]?).any isNewL)=true→i≠j→b i≠b j)→
   Q .normal (putAll ops.toList (lvals specs b 0) a0) w):(Code.region id ops true).wp P Q a0 W:=by
 have hg:=layGood_of hG
 have lt_of:∀{i:Nat} {o:Oper},ops[i]? = some o→i<ops.size:=fun{i o} hi=>by
  rcases Nat.lt_or_ge i ops.size with h' | h'
  ·exact h'
  ·rw [Array.getElem?_eq_none h']at hi;cases hi
 refine region_inv2 (I:=fun listed a w=>∃b,LInv ops specs W a0 listed a w b) hm hg.back ?_ ?_ ?_
 ·have f:∀i,(Array.replicate ops.size false).getD i false=false:=fun i=>by
   simp [Array.getElem?_replicate];split <;> simp
  exact⟨fun _=>0,⟨rfl,rfl,rfl,Nat.le_refl _,fun _ _=>rfl⟩,rfl,rfl,fun i o _ h=>(by rw [f]at h;cases h),fun _ _=>rfl,fun i o d v _ _ _ h=>(by rw [f]at h;cases h),fun i o d ob mk st _ _ _ h=>(by rw [f]at h;cases h),fun i j s s' _ _ _ _ _ h=>(by rw [f]at h;cases h)⟩
 ·rintro listed a w i o hs ⟨b,hI⟩ ho hu hd
  have hi:i<ops.size:=lt_of ho
  have hsi:specs[i]? = some (specs[i]'(by rw [←hg.len];exact hi)):=by simp
  have self:(listed.setIfInBounds i true).getD i false=true:=getD_set_self (by rw [hs];exact hi) _
  have other:∀j,i≠j→(listed.setIfInBounds i true).getD j false=listed.getD j false:=fun j hj=>getD_set_ne false hj
  have hLD:LDeps ops specs W o a w:=fun j hj=>by
   have hlj:=hd j (by simpa using hj)
   cases hoj:ops[j]? with
   | none=>simp
   | some oj=>
    cases hdj:oj.dst with
    | none=>simp [hdj]
    | some d=>
     cases hsj:specs[j]? with
     | none=>simp [hdj]
     | some s=>
      cases s using layCases with
      | val v=>simpa [hdj]using hI.val j oj d v hsj hoj hdj hlj
      | sto k=>simp [hdj]
      | new ob mk st=>
       obtain⟨p1,p2,p3⟩:=hI.new j oj d ob mk st hsj hoj hdj hlj
       simp only [Option.bind_some,hdj]
       exact⟨b j,p1,p2,fun e=>by rw [p3,e];rfl⟩
  have hL:=LAll_get ops.toList specs 0 H i o _ (by simpa using ho) hsi a w hI.below (fun t ht=>hI.keep t fun j o' hj _ e=>by
   have h1:o'∈ops.toList:=by rw [List.mem_iff_getElem?];exact⟨j,by simpa using hj⟩
   have:=List.all_eq_true.1 ht o' h1
   rw [e]at this
   simp at this) hLD
  rw [Nat.zero_add]at hL
  have down':∀(k:Nat) ok,ops[k]? = some ok→(listed.setIfInBounds i true).getD k false=true→∀j∈depsOf ok,(listed.setIfInBounds i true).getD j false=true:=fun k ok hk hl j hj=>by
   by_cases hik:i=k
   ·subst hik
    rw [ho]at hk;cases hk
    exact getD_set_true (hd j hj)
   ·rw [other k hik]at hl
    exact getD_set_true (hI.down k ok hk hl j hj)
  -- a value comes up,whatever it leaves behind
  have stepv:∀v w',specs[i]? = some (lval v)→Below w.heap.size w w'→∃b,LInv ops specs W a0 (listed.setIfInBounds i true) (a.put o.dst v) w' b:=fun v w' hsp hb=>by
   have ne_of:∀(k:Nat),(∃ob mk st,specs[k]? = some (lnew ob mk st))→i≠k:=fun k hk e=>by
    subst e
    obtain⟨ob,mk,st,hk⟩:=hk
    rw [hsp]at hk;cases hk
   have cont:∀(k:Nat) ob mk st,specs[k]? = some (lnew ob mk st)→contOf (listed.setIfInBounds i true) ob st=contOf listed ob st:=fun k ob mk st hk=>by
    cases st with
    | none=>rfl
    | some x=>
     obtain⟨s,ob'⟩:=x
     have:i≠s:=fun e=>by
      subst e
      have:=hg.st k ob mk i ob' hk
      rw [hsp]at this;cases this
     simp only [contOf,other s this]
   refine⟨b,hI.below.trans (hb.mono hI.below.size),?_,?_,down',?_,?_,?_,?_⟩
   ·cases hdst:o.dst with
    | none=>exact hI.defers
    | some d=>exact hI.defers
   ·cases hdst:o.dst with
    | none=>exact hI.tsz
    | some d=>simpa [Act.put]using hI.tsz
   ·intro t ht
    have h1:a.tmps[t]? = a0.tmps[t]?:=hI.keep t fun j oj hoj hl=>ht j oj hoj (getD_set_true hl)
    cases hdst:o.dst with
    | none=>exact h1
    | some d=>
     have:d≠t:=fun e=>ht i o ho self (by rw [hdst,e])
     simp only [Act.put,Array.getElem?_setIfInBounds_ne this]
     exact h1
   ·intro j oj d v' hsj hoj hdj hlj
    by_cases hij:i=j
    ·subst hij
     rw [ho]at hoj;cases hoj
     rw [hsp]at hsj;cases hsj
     have:=(hg.own i o d ho hdj).1
     rw [hdj]
     simp [Act.put,hI.tsz,this]
    ·rw [other j hij]at hlj
     have h1:=hI.val j oj d v' hsj hoj hdj hlj
     cases hdst:o.dst with
     | none=>exact h1
     | some d'=>
      have:d'≠d:=fun e=>(hg.own i o d' ho hdst).2 j oj (Ne.symm hij) hoj (by rw [hdj,e])
      simp only [Act.put,Array.getElem?_setIfInBounds_ne this]
      exact h1
   ·intro j oj d ob mk st hsj hoj hdj hlj
    have hij:=ne_of j ⟨ob,mk,st,hsj⟩
    rw [other j hij]at hlj
    obtain⟨p1,p2,p3⟩:=hI.new j oj d ob mk st hsj hoj hdj hlj
    rw [cont j ob mk st hsj]
    refine⟨?_,p2,Go.Proofs.YtdokjecjiifciaaGreatDoor.keep hb p3⟩
    cases hdst:o.dst with
    | none=>exact p1
    | some d'=>
     have:d'≠d:=fun e=>(hg.own i o d' ho hdst).2 j oj (Ne.symm hij) hoj (by rw [hdj,e])
     simp only [Act.put,Array.getElem?_setIfInBounds_ne this]
     exact p1
   ·intro j k s s' hj hk q1 q2 hjk hlj hlk
    have e1:=ne_of j (by cases s using layCases with | new ob mk st=>exact⟨ob,mk,st,hj⟩ | val _=>cases q1 | sto _=>cases q1)
    have e2:=ne_of k (by cases s' using layCases with | new ob mk st=>exact⟨ob,mk,st,hk⟩ | val _=>cases q2 | sto _=>cases q2)
    rw [other j e1]at hlj
    rw [other k e2]at hlk
    exact hI.free j k s s' hj hk q1 q2 hjk hlj hlk
  generalize hsv:(specs[i]'(by rw [←hg.len];exact hi))=sp at *
  cases sp using layCases with
  | val v=>
   rcases hL with⟨hw,hwp⟩ | ⟨hw,hv,_⟩
   ·refine .inl ⟨hw,Oper.wp_mono (fun a' w'=>?_) hwp⟩
    rintro⟨v',rfl,hb,hv,_⟩
    obtain rfl:v'=v:=by simpa [holdsAt]using hv
    exact stepv v' w' hsi hb
   ·obtain rfl:undef=v:=by simpa [holdsAt]using hv
    exact .inr ⟨hw,stepv undef w hsi (Below.refl _ _)⟩
  | new ob mk st=>
   obtain⟨hw,hrun⟩:=hL
   refine .inl ⟨hw,?_⟩
   obtain⟨d,hdst⟩:=hg.dst i ob mk st o hsi ho
   unfold Oper.wp
   rw [hrun]
   show ∃b,LInv ops specs W a0 _ (a.put o.dst _) _ b
   have hput:a.put o.dst (mk w.heap.size)={ a with tmps:=a.tmps.setIfInBounds d (mk w.heap.size) }:=by rw [hdst];rfl
   rw [hput]
   have hl:d<a.tmps.size:=by rw [hI.tsz];exact(hg.own i o d ho hdst).1
   have hb:Below w.heap.size w (w.alloc ob):=(Below.refl _ _).alloc (Nat.le_refl _) _
   have cont:∀(k:Nat) ob mk st,specs[k]? = some (lnew ob mk st)→contOf (listed.setIfInBounds i true) ob st=contOf listed ob st:=fun k ob mk st hk=>by
    cases st with
    | none=>rfl
    | some x=>
     obtain⟨s,ob'⟩:=x
     have:i≠s:=fun e=>by
      subst e
      have:=hg.st k ob mk i ob' hk
      rw [hsi]at this;cases this
     simp only [contOf,other s this]
   refine⟨fun l=>if l=i then w.heap.size else b l,hI.below.trans (hb.mono hI.below.size),hI.defers,by simpa using hI.tsz,down',?_,?_,?_,?_⟩
   ·intro t ht
    have:d≠t:=fun e=>ht i o ho self (by rw [hdst,e])
    simp only [Array.getElem?_setIfInBounds_ne this]
    exact hI.keep t fun j oj hoj hl=>ht j oj hoj (getD_set_true hl)
   ·intro j oj d' v' hsj hoj hdj hlj
    have hij:i≠j:=fun e=>by subst e;rw [hsi]at hsj;cases hsj
    rw [other j hij]at hlj
    have:d≠d':=fun e=>(hg.own i o d ho hdst).2 j oj (Ne.symm hij) hoj (by rw [hdj,e])
    simp only [Array.getElem?_setIfInBounds_ne this]
    exact hI.val j oj d' v' hsj hoj hdj hlj
   ·intro j oj d' ob' mk' st' hsj hoj hdj hlj
    by_cases hij:i=j
    ·subst hij
     rw [ho]at hoj;cases hoj
     rw [hsi]at hsj;cases hsj
     rw [hdst]at hdj;cases hdj
     simp only [if_true]
     refine⟨by simp [hl],hI.below.size,?_⟩
     rw [heap_new,cont i _ _ _ hsi]
     congr 1
     cases st with
     | none=>rfl
     | some x=>
      obtain⟨s,ob'⟩:=x
      have hns:listed.getD s false=false:=by
       cases hls:listed.getD s false with
       | false=>rfl
       | true=>
        have hss:=hg.st i _ _ s ob' hsi
        have hslt:s<ops.size:=by
         rw [hg.len]
         rcases Nat.lt_or_ge s specs.length with h' | h'
         ·exact h'
         ·rw [List.getElem?_eq_none h']at hss;cases hss
        -- the store waits for its variable
        have hos:ops[s]? = some ops[s]:=by simp [hslt]
        have hdep:i∈depsOf ops[s]:=by
         have hLD':LDeps ops specs W ops[s] a w:=fun j hj=>by
          have hlj:=hI.down s _ hos hls j (by simpa using hj)
          cases hoj:ops[j]? with
          | none=>simp
          | some oj=>
           cases hdj:oj.dst with
           | none=>simp [hdj]
           | some d=>
            cases hsj:specs[j]? with
            | none=>simp [hdj]
            | some s=>
             cases s using layCases with
             | val v=>simpa [hdj]using hI.val j oj d v hsj hoj hdj hlj
             | sto k=>simp [hdj]
             | new ob mk st=>
              obtain⟨p1,p2,p3⟩:=hI.new j oj d ob mk st hsj hoj hdj hlj
              simp only [Option.bind_some,hdj]
              exact⟨b j,p1,p2,fun e=>by rw [p3,e];rfl⟩
         have hL':=LAll_get ops.toList specs 0 H s _ _ (by rw [Array.getElem?_toList];exact hos) hss a w hI.below (fun t ht=>hI.keep t fun j o' hj _ e=>by
          have h1:o'∈ops.toList:=by rw [List.mem_iff_getElem?];exact⟨j,by simpa using hj⟩
          have:=List.all_eq_true.1 ht o' h1
          rw [e]at this
          simp at this) hLD'
         obtain⟨_,_,_,_,_,_,_,_,_,h4,_⟩:=hL'
         simpa using h4
        rw [hI.down s _ hos hls i hdep]at hu
        cases hu
      simp only [contOf,hns]
      rfl
    ·rw [other j hij]at hlj
     obtain⟨p1,p2,p3⟩:=hI.new j oj d' ob' mk' st' hsj hoj hdj hlj
     have:d≠d':=fun e=>(hg.own i o d ho hdst).2 j oj (Ne.symm hij) hoj (by rw [hdj,e])
     simp only [if_neg (Ne.symm hij),Array.getElem?_setIfInBounds_ne this]
     rw [cont j ob' mk' st' hsj]
     exact⟨p1,p2,Go.Proofs.YtdokjecjiifciaaGreatDoor.keep hb p3⟩
   ·intro j k s s' hj hk q1 q2 hjk hlj hlk
    have old:∀(k:Nat) s,specs[k]? = some s→isNewL s=true→i≠k→listed.getD k false=true→b k<w.heap.size:=fun k s hk q hik hl=>by
     cases s using layCases with
     | val _=>cases q
     | sto _=>cases q
     | new ob mk st=>
      have hklt:k<ops.size:=by
       rw [hg.len]
       rcases Nat.lt_or_ge k specs.length with h' | h'
       ·exact h'
       ·rw [List.getElem?_eq_none h']at hk;cases hk
      have hok:ops[k]? = some ops[k]:=by simp [hklt]
      obtain⟨d,hd'⟩:=hg.dst k ob mk st _ hk hok
      exact lt_of_block (hI.new k _ d ob mk st hk hok hd' hl).2.2
    by_cases e1:i=j
    ·subst e1
     rw [other k hjk]at hlk
     simp only [if_true,if_neg (Ne.symm hjk)]
     exact Nat.ne_of_gt (old k s' hk q2 hjk hlk)
    ·by_cases e2:i=k
     ·subst e2
      rw [other j e1]at hlj
      simp only [if_true,if_neg (Ne.symm e1)]
      exact Nat.ne_of_lt (old j s hj q1 e1 hlj)
     ·rw [other j e1]at hlj
      rw [other k e2]at hlk
      simp only [if_neg (Ne.symm e1),if_neg (Ne.symm e2)]
      exact hI.free j k s s' hj hk q1 q2 hjk hlj hlk
  | sto k=>
   obtain⟨t,sv,T,z,vs,j,hdst,hgd,hop,d1,dk,hsk,d2,dj,hsj,z1,z2,z3⟩:=hL
   refine .inl ⟨by simp [Region.wanted,hgd],?_⟩
   have hlk:=hd k (by simpa using d1)
   have hlj:=hd j (by simpa using d2)
   obtain⟨ok,hok,dk⟩:=Option.bind_eq_some_iff.1 dk
   obtain⟨oj,hoj,dj⟩:=Option.bind_eq_some_iff.1 dj
   obtain⟨p1,p2,p3⟩:=hI.new k ok t _ _ _ hsk hok dk hlk
   have hv:=hI.val j oj sv _ hsj hoj dj hlj
   simp only [contOf,hu]at p3
   have p3':w.heap[b k]? = some (.cells z T):=by simpa using p3
   have hput:a.put o.dst undef=a:=by rw [hdst];rfl
   refine wp_store_mid T (.tmp t) (.tmp sv) hop (b k) 0 vs (by simp [Act.eval,p1]) (by simp [Act.eval,hv]) (by rw [←z1];exact there_of p3') z3 z2 ?_
   show ∃b,LInv ops specs W a0 _ (a.put o.dst _) _ b
   rw [hput]
   have ne_of:∀(k:Nat),(∃ob mk st,specs[k]? = some (lnew ob mk st))→i≠k:=fun k hk e=>by
    subst e
    obtain⟨ob,mk,st,hk⟩:=hk
    rw [hsi]at hk;cases hk
   refine⟨b,below_setCells p2 _ _ _ hI.below,hI.defers,hI.tsz,down',?_,?_,?_,?_⟩
   ·intro t ht
    exact hI.keep t fun j oj hoj hl=>ht j oj hoj (getD_set_true hl)
   ·intro j oj d' v' hsj hoj hdj hlj
    have hij:i≠j:=fun e=>by subst e;rw [hsi]at hsj;cases hsj
    rw [other j hij]at hlj
    exact hI.val j oj d' v' hsj hoj hdj hlj
   ·intro l ol d' ob' mk' st' hsl hol hdl hll
    have hil:=ne_of l ⟨ob',mk',st',hsl⟩
    rw [other l hil]at hll
    obtain⟨r1,r2,r3⟩:=hI.new l ol d' ob' mk' st' hsl hol hdl hll
    refine⟨r1,r2,?_⟩
    by_cases e:l=k
    ·subst e
     rw [hsk]at hsl;cases hsl
     simp only [contOf,self,if_true]
     exact heap_setCells_all vs p3' z1
    ·have hne:b l≠b k:=hI.free l k _ _ hsl hsk rfl rfl e hll hlk
     rw [heap_setCells_ne hne,r3]
     congr 1
     cases st' with
     | none=>rfl
     | some x=>
      obtain⟨s,ob''⟩:=x
      have:i≠s:=fun e'=>by
       subst e'
       have:=hg.st l _ _ i ob'' hsl
       rw [hsi]at this
       cases this
       exact e rfl
      simp only [contOf,other s this]
   ·intro j k' s s' hj hk' q1 q2 hjk hlj hlk'
    have e1:=ne_of j (by cases s using layCases with | new ob mk st=>exact⟨ob,mk,st,hj⟩ | val _=>cases q1 | sto _=>cases q1)
    have e2:=ne_of k' (by cases s' using layCases with | new ob mk st=>exact⟨ob,mk,st,hk'⟩ | val _=>cases q2 | sto _=>cases q2)
    rw [other j e1]at hlj
    rw [other k' e2]at hlk'
    exact hI.free j k' s s' hj hk' q1 q2 hjk hlj hlk'
 ·rintro listed a w ⟨b,hI⟩ hall
  have slt:∀{i:Nat} {s:Lay},specs[i]? = some s→i<ops.size:=fun{i s} h=>by
   rw [hg.len]
   rcases Nat.lt_or_ge i specs.length with h' | h'
   ·exact h'
   ·rw [List.getElem?_eq_none h']at h;cases h
  obtain⟨s1,s2,s3,s4⟩:=putAll_any ops.toList (lvals specs b 0) a0 (by rw [lvals_len,Array.length_toList];exact hg.len) (fun i o d hi hd=>(hg.own i o d (by simpa using hi) hd).1) (fun i j o o' d hij hi hj hd=>(hg.own i o d (by simpa using hi) hd).2 j o' (Ne.symm hij) (by simpa using hj))
  have ea:a=putAll ops.toList (lvals specs b 0) a0:=by
   refine act_ext (by rw [s1,hI.defers]) (by rw [s2,hI.tsz]) fun t=>?_
   by_cases ht:∃(i:Nat) (o:Oper),ops[i]? = some o∧o.dst=some t
   ·obtain⟨i,o,ho,hdt⟩:=ht
    have hi:=lt_of ho
    have hsi:specs[i]? = some (specs[i]'(by rw [←hg.len];exact hi)):=by simp
    have:=lvals_get specs b 0 i _ hsi
    rw [Nat.zero_add]at this
    rw [s4 i o t _ (by simpa using ho) this hdt]
    generalize (specs[i]'(by rw [←hg.len];exact hi))=s at *
    cases s using layCases with
    | val v=>exact hI.val i o t v hsi ho hdt (hall i hi)
    | new ob mk st=>exact(hI.new i o t ob mk st hsi ho hdt (hall i hi)).1
    | sto k=>
     exfalso
     have hL:=LAll_get ops.toList specs 0 H i o _ (by simpa using ho) hsi a w hI.below (fun t ht=>hI.keep t fun j o' hj _ e=>by
      have h1:o'∈ops.toList:=by rw [List.mem_iff_getElem?];exact⟨j,by simpa using hj⟩
      have:=List.all_eq_true.1 ht o' h1
      rw [e]at this
      simp at this) (fun j hj=>by
      cases hoj:ops[j]? with
      | none=>simp
      | some oj=>
       have hlj:=hall j (lt_of hoj)
       cases hdj:oj.dst with
       | none=>simp [hdj]
       | some d=>
        cases hsj:specs[j]? with
        | none=>simp [hdj]
        | some s=>
         cases s using layCases with
         | val v=>simpa [hdj]using hI.val j oj d v hsj hoj hdj hlj
         | sto k=>simp [hdj]
         | new ob mk st=>
          obtain⟨p1,p2,p3⟩:=hI.new j oj d ob mk st hsj hoj hdj hlj
          simp only [Option.bind_some,hdj]
          exact⟨b j,p1,p2,fun e=>by rw [p3,e];rfl⟩)
     obtain⟨_,_,_,_,_,_,h1,_⟩:=hL
     rw [h1]at hdt;cases hdt
   ·rw [hI.keep t fun i o ho _ e=>ht ⟨i,o,ho,e⟩,s3 t fun i o h e=>ht ⟨i,o,by simpa using h,e⟩]
  rw [ea]
  refine K b w hI.below (lfacts_of _ _ _ _ _ fun i ob mk st hi=>?_) fun i j hi hj hij=>?_
  ·rw [Nat.zero_add]
   have hlt:=slt hi
   have hoi:ops[i]? = some ops[i]:=by simp [hlt]
   obtain⟨d,hdi⟩:=hg.dst i ob mk st _ hi hoi
   obtain⟨_,p2,p3⟩:=hI.new i _ d ob mk st hi hoi hdi (hall i hlt)
   refine⟨p2,?_⟩
   rw [p3]
   cases st with
   | none=>rfl
   | some x=>
    obtain⟨s,ob'⟩:=x
    have:=hall s (slt (hg.st i _ _ s ob' hi))
    simp only [contOf,this,if_true]
  ·obtain⟨s,h1,h2⟩:=(Option.any_eq_true _ _).1 hi
   obtain⟨s',h1',h2'⟩:=(Option.any_eq_true _ _).1 hj
   exact hI.free i j s s' h1 h1' h2 h2' hij (hall i (slt h1)) (hall j (slt h1'))
end
end Go.Proofs.YtdokjecjiifciaaGreatDoor
namespace Go.Proofs.YtdokjecjiifciaaGreatDoor
open Go.RowKit
section
variable {P:Program} {ops:Array Oper} {a:Act} {w0 w w':World} {Q:Exit→Act→World→Prop} {n:Nat} {l:Slots} {L:Blks} {S:Nat→Prop} {R:List Row}
def lslots (ops:List Oper)(specs:List Lay):List Nat→Slots
 | []=>[]
 | j::r=>match(ops[j]?).bind (·.dst),specs[j]? with | some d,some (.inl v)=>(d,v)::lslots ops specs r | _,_=>lslots ops specs r
def lres (P:Program)(ops:List Oper)(specs:List Lay)(lo:Slots)(L:Blks):List Oper→List Lay→List Hint→Option (List Lay×List Prop)
 | [],[],_=>some ([],[])
 | o::os,.inl _::ss,h::hs=>
  match lres P ops specs lo L os ss hs with
  | none=>none
  | some (is,cs)=>match wantOf ops (lslots ops specs (depsOf o)++lo) o,aev P (lslots ops specs (depsOf o)++lo) L h o with
   | some true,some (r,cs')=>match itemOf r with | some (.inl v)=>some (.inl v::is,cs'++cs) | _=>none
   | _,_=>none
 | _::os,.inr x::ss,_::hs=>
  match lres P ops specs lo L os ss hs with
  | none=>none
  | some (is,cs)=>some (.inr x::is,cs)
 | _,_,_=>none
def LOth (P:Program)(ops:Array Oper)(specs:List Lay):List Oper→List Lay→Nat→Prop
 | o::l,.inr (.inl (ob,mk,_))::ss,k=>(∀a w,Region.wanted o (yielded ops a.tmps)=true∧(execOp (Act.eval a) o).run P w=.ok (.value (mk w.heap.size)) (w.alloc ob))∧LOth P ops specs l ss (k+1)
 | o::l,.inr (.inr j)::ss,k=>(∃(t sv:Nat) (T:TypeId) (z vs:Array Value) (j':Nat),o.dst=none∧o.guard=none∧o.op=.store T (.tmp t) (.tmp sv)∧(depsOf o).contains j=true∧(ops[j]?).bind (·.dst)=some t∧
   specs[j]? = some (lnew (.cells z T) (fun b=>.pointer (some ⟨b,0,none⟩)) (some (k,.cells vs T)))∧(depsOf o).contains j'=true∧(ops[j']?).bind (·.dst)=some sv∧specs[j']? = some (lval (.agg vs))∧
   z.size=vs.size∧vs.all (·.oneCell')=true∧(P.info? T).map (·.size)=some vs.size)∧LOth P ops specs l ss (k+1)
 | _::l,.inl _::ss,k=>LOth P ops specs l ss (k+1)
 | _,_,_=>True
theorem lres_get {os:List Oper}{specs:List Lay}{lo:Slots}:∀(pre:List Oper) (ss:List Lay) (hs:List Hint) (is:List Lay) (cs:List Prop),lres P os specs lo L pre ss hs=some (is,cs)→(∀c∈cs,c)→
  ∀(i:Nat) (o:Oper) (v:Value),pre[i]? = some o→is[i]? = some (.inl v)→
   wantOf os (lslots os specs (depsOf o)++lo) o=some true∧∃h r cs',aev P (lslots os specs (depsOf o)++lo) L h o=some (r,cs')∧(∀c∈cs',c)∧itemOf r=some (.inl v)
 | [],[],_,_,_,_,_,i,o,s,h,_=>by simp at h
 | [],_::_,_,_,_,h,_,_,_,_,_,_=>by cases h
 | _::_,[],_,_,_,h,_,_,_,_,_,_=>by cases h
 | x::rest,.inl u::ss,h::hs,is,cs,hd,hc,i,o,v,ho,hs'=>by
  simp only [lres]at hd
  split at hd <;> first | (cases hd;done) | skip
  rename_i is1 cs1 h1
  split at hd <;> first | (cases hd;done) | skip
  rename_i r cs2 hw hr
  split at hd <;> first | (cases hd;done) | skip
  rename_i v' hit
  simp only [Option.some.injEq,Prod.mk.injEq]at hd
  obtain⟨rfl,rfl⟩:=hd
  cases i with
  | zero=>
   simp at ho hs'
   subst ho hs'
   exact⟨hw,h,r,cs2,hr,fun c hc'=>hc c (by simp [hc']),hit⟩
  | succ j=>exact lres_get rest ss hs is1 cs1 h1 (fun c hc'=>hc c (by simp [hc'])) j o v (by simpa using ho) (by simpa using hs')
 | _::_,.inl _::_,[],_,_,h,_,_,_,_,_,_=>by cases h
 | x::rest,.inr u::ss,h::hs,is,cs,hd,hc,i,o,v,ho,hs'=>by
  simp only [lres]at hd
  split at hd <;> first | (cases hd;done) | skip
  rename_i is1 cs1 h1
  simp only [Option.some.injEq,Prod.mk.injEq]at hd
  obtain⟨rfl,rfl⟩:=hd
  cases i with
  | zero=>simp at hs'
  | succ j=>exact lres_get rest ss hs is1 cs1 h1 hc j o v (by simpa using ho) (by simpa using hs')
 | _::_,.inr _::_,[],_,_,h,_,_,_,_,_,_=>by cases h
theorem lslots_mem {os:List Oper}{specs:List Lay}:∀(js:List Nat) (t:Nat) (v:Value),(t,v)∈lslots os specs js→∃j∈js,(os[j]?).bind (·.dst)=some t∧specs[j]? = some (.inl v)
 | [],_,_,h=>by cases h
 | j::r,t,v,h=>by
  unfold lslots at h
  split at h
  ·rename_i d s h1 h2
   rcases List.mem_cons.1 h with h | h
   ·simp only [Prod.mk.injEq]at h
    obtain⟨rfl,rfl⟩:=h
    exact⟨j,by simp,h1,h2⟩
   ·obtain⟨j',hj,x⟩:=lslots_mem r t v h
    exact⟨j',by simp [hj],x⟩
  ·obtain⟨j',hj,x⟩:=lslots_mem r t v h
   exact⟨j',by simp [hj],x⟩
theorem LAll_of {a0:Act}{W:World}{specs:List Lay}:∀(l:List Oper) (ss:List Lay) (k:Nat),LOth P ops specs l ss k→
  (∀(i:Nat) o v,l[i]? = some o→ss[i]? = some (.inl v)→∀a w,Below W.heap.size W w→(∀t:Nat,(ops.toList.all fun o=>o.dst != some t)=true→a.tmps[t]? = a0.tmps[t]?)→LDeps ops specs W o a w→OpOk 0 P Q ops o (.inl v) false a w)→
  LAll P Q W ops a0 specs l ss k
 | [],_,_,_,_=>trivial
 | _::_,[],_,_,_=>trivial
 | o::l,s::ss,k,hO,h=>by
  have tail:LOth P ops specs l ss (k+1)→LAll P Q W ops a0 specs l ss (k+1):=fun hO'=>LAll_of l ss (k+1) hO' fun i o' v h1 h2=>h (i+1) o' v (by simpa using h1) (by simpa using h2)
  match s,hO with
  | .inl v,hO=>exact⟨h 0 o v rfl rfl,tail hO⟩
  | .inr (.inl (ob,mk,st)),hO=>exact⟨fun a w _ _ _=>hO.1 a w,tail hO.2⟩
  | .inr (.inr j),hO=>exact⟨fun a w _ _ _=>hO.1,tail hO.2⟩
def lblks (nb:Nat→Nat):List Lay→Nat→Blks
 | [],_=>[]
 | .inr (.inl (ob,_,none))::l,k=>(nb k,ob)::lblks nb l (k+1)
 | .inr (.inl (_,_,some (_,ob)))::l,k=>(nb k,ob)::lblks nb l (k+1)
 | _::l,k=>lblks nb l (k+1)
theorem lblks_mem {nb:Nat→Nat}:∀(ss:List Lay) (k:Nat) (x:Nat×Obj),x∈lblks nb ss k→∃i,x.1=nb (k+i)∧((ss[i]?).any isNewL)=true
 | [],_,_,h=>by cases h
 | .inl _::l,k,x,h=>by
  obtain⟨i,h1,h2⟩:=lblks_mem l (k+1) x h
  exact⟨i+1,by rw [h1];congr 1;omega,by simpa using h2⟩
 | .inr (.inr _)::l,k,x,h=>by
  obtain⟨i,h1,h2⟩:=lblks_mem l (k+1) x h
  exact⟨i+1,by rw [h1];congr 1;omega,by simpa using h2⟩
 | .inr (.inl (ob,mk,none))::l,k,x,h=>by
  rcases List.mem_cons.1 h with rfl | h
  ·exact⟨0,rfl,rfl⟩
  ·obtain⟨i,h1,h2⟩:=lblks_mem l (k+1) x h
   exact⟨i+1,by rw [h1];congr 1;omega,by simpa using h2⟩
 | .inr (.inl (ob,mk,some (s,ob')))::l,k,x,h=>by
  rcases List.mem_cons.1 h with rfl | h
  ·exact⟨0,rfl,rfl⟩
  ·obtain⟨i,h1,h2⟩:=lblks_mem l (k+1) x h
   exact⟨i+1,by rw [h1];congr 1;omega,by simpa using h2⟩
theorem MemS.consN {x:Nat×Obj}{L':Blks}{base:Nat}(M:MemS S w0 w' L' R)(hb0:w0.heap.size≤base)(h1:base≤x.1)(h2:w'.heap[x.1]? = some x.2)(h3:∀y∈L',y.1≠x.1)(h4:∀q∈R,∀g,q.1.ownBlock=some g→g<base):MemS S w0 w' (x::L') R:=by
 refine⟨M.os,M.tape,M.output,M.size,M.block,M.old,fun k y h=>?_,fun k k' y z h h' hk=>?_,fun k y h=>?_,M.rows,fun q hq g hg y hy=>?_,M.rowsR⟩
 ·cases k with
  | zero=>simp at h;subst h;exact h2
  | succ k=>exact M.has k y (by simpa using h)
 ·cases k with
  | zero=>
   simp at h;subst h
   cases k' with
   | zero=>omega
   | succ k'=>exact Ne.symm (h3 z (List.mem_of_getElem? (by simpa using h')))
  | succ k=>
   cases k' with
   | zero=>simp at h';subst h';exact h3 y (List.mem_of_getElem? (by simpa using h))
   | succ k'=>exact M.apart k k' y z (by simpa using h) (by simpa using h') (by omega)
 ·cases k with
  | zero=>simp at h;subst h;exact fun hs=>by have:=M.old _ hs;omega
  | succ k=>exact M.base k y (by simpa using h)
 ·rcases List.mem_cons.1 hy with rfl | hy
  ·exact fun e=>by have:=h4 q hq g hg;omega
  ·exact M.rowsL q hq g hg y hy
theorem MemS.addLay {nb:Nat→Nat}(M:MemS S w0 w' L R){base:Nat}(hb0:w0.heap.size≤base)(hbL:∀y∈L,y.1<base)(hbR:∀q∈R,∀g,q.1.ownBlock=some g→g<base) :
  ∀(ss:List Lay) (k:Nat),lfacts base w' ss nb k→(∀(i j:Nat),((ss[i]?).any isNewL)=true→((ss[j]?).any isNewL)=true→i≠j→nb (k+i)≠nb (k+j))→MemS S w0 w' (lblks nb ss k++L) R
 | [],_,_,_=>M
 | .inl _::l,k,hf,hne=>MemS.addLay M hb0 hbL hbR l (k+1) hf fun i j hi hj hij=>by
   have:=hne (i+1) (j+1) (by simpa using hi) (by simpa using hj) (by omega)
   rwa [show k+(i+1)=k+1+i by omega,show k+(j+1)=k+1+j by omega]at this
 | .inr (.inr _)::l,k,hf,hne=>MemS.addLay M hb0 hbL hbR l (k+1) hf fun i j hi hj hij=>by
   have:=hne (i+1) (j+1) (by simpa using hi) (by simpa using hj) (by omega)
   rwa [show k+(i+1)=k+1+i by omega,show k+(j+1)=k+1+j by omega]at this
 | .inr (.inl (ob,mk1,none))::l,k,hf,hne=>by
  have ih:=MemS.addLay M hb0 hbL hbR l (k+1) hf.2 fun i j hi hj hij=>by
   have:=hne (i+1) (j+1) (by simpa using hi) (by simpa using hj) (by omega)
   rwa [show k+(i+1)=k+1+i by omega,show k+(j+1)=k+1+j by omega]at this
  refine MemS.consN (x:=(nb k,ob)) ih hb0 hf.1.1 hf.1.2 (fun y hy=>?_) hbR
  rcases List.mem_append.1 hy with h | h
  ·obtain⟨i,h1,h2⟩:=lblks_mem l (k+1) y h
   rw [h1]
   have:=hne (i+1) 0 (by simpa using h2) rfl (by omega)
   rwa [show k+(i+1)=k+1+i by omega,Nat.add_zero]at this
  ·have:=hbL y h;have:=hf.1.1;simp only;omega
 | .inr (.inl (ob,mk1,some (s,ob')))::l,k,hf,hne=>by
  have ih:=MemS.addLay M hb0 hbL hbR l (k+1) hf.2 fun i j hi hj hij=>by
   have:=hne (i+1) (j+1) (by simpa using hi) (by simpa using hj) (by omega)
   rwa [show k+(i+1)=k+1+i by omega,show k+(j+1)=k+1+j by omega]at this
  refine MemS.consN (x:=(nb k,ob')) ih hb0 hf.1.1 hf.1.2 (fun y hy=>?_) hbR
  rcases List.mem_append.1 hy with h | h
  ·obtain⟨i,h1,h2⟩:=lblks_mem l (k+1) y h
   rw [h1]
   have:=hne (i+1) 0 (by simpa using h2) rfl (by omega)
   rwa [show k+(i+1)=k+1+i by omega,Nat.add_zero]at this
  ·have:=hbL y h;have:=hf.1.1;simp only;omega
theorem rg_lay {id:Nat}(F:Fr n a l)(M:MemS S w0 w L R)(specs:List Lay)(hs:List Hint)(out:List Nat)(C:List Prop)(l':(Nat→Nat)→Slots)(L':(Nat→Nat)→Blks)
  (hm:P.follows .mixedOrders=true) (hG:layB ops.toList specs n=true) (hd:dstsB n ops.toList=true)
  (h1:lres P ops.toList specs (dropS (dstsOf ops.toList) l) L ops.toList specs hs=some (specs,C))
  (h2:∀nb,keepS out (pairsOf ops.toList (lvals specs nb 0) l)=l' nb) (h3:∀nb,lblks nb specs 0++L=L' nb) (ho:LOth P ops specs ops.toList specs 0) (c:allC C True)
  (g:∀nb a' w',Fr n a' (l' nb)→MemS S w0 w' (L' nb) R→Q .normal a' w'):(Code.region id ops true).wp P Q a w:=by
 refine region_lay specs hm (by rw [F.size];exact hG) (LAll_of _ _ _ ho fun i o v ho' hs1 a' w' hC hk hD=>?_) fun nb w' hC hfacts hne=>?_
 ·have hcs:=(allC_iff.1 c).1
  have hlk:∀t v,look t (lslots ops.toList specs (depsOf o)++dropS (dstsOf ops.toList) l)=some v→a'.tmps[t]? = some v:=fun t v h=>by
   rcases List.mem_append.1 (look_mem _ t v h)with h | h
   ·obtain⟨j,hj,h1',h2'⟩:=lslots_mem _ t v h
    have hDj:=hD j (by simpa using hj)
    have h1'':(ops[j]?).bind (·.dst)=some t:=by simpa using h1'
    simp only [h1'',h2']at hDj
    exact hDj
   ·obtain⟨h3,h4⟩:=dropS_mem _ l _ h
    have:=hk t (by
     rw [List.all_eq_true]
     intro o' ho2
     simp only [bne_iff_ne,ne_eq]
     exact fun e=>memB_false _ h4 (dstsOf_mem _ o' t ho2 e))
    rw [this]
    exact F.has _ h3
  have A:Agr a'.eval (lslots ops.toList specs (depsOf o)++dropS (dstsOf ops.toList) l):=fun x v h=>by
   cases x with
   | tmp t=>exact eval_tmp (hlk t v h)
   | const u=>exact Option.some.inj h
   | func f=>exact Option.some.inj h
   | global g=>exact Option.some.inj h
  have H:Has w' L:=fun k x hx=>keep hC (M.has k x hx)
  obtain⟨hw,h,r,cs',hr,hc',hit⟩:=lres_get _ _ _ _ _ h1 hcs i o v ho' hs1
  refine .inl ⟨wanted_iff hw hlk,?_⟩
  refine aev_ok A H hr hc' _ _ fun b w'' p=>?_
  unfold itemOf at hit
  split at hit
  ·rename_i hu hn
   obtain rfl:=Sum.inl.inj (Option.some.inj hit)
   obtain rfl:=p.zero hn
   exact⟨r.val 0,rfl,⟨p.os,p.tape,p.output,p.size,fun k hk=>p.block k hk (fun u hu'=>by rw [hu]at hu';cases hu')⟩,rfl,fun h=>by cases h⟩
  ·cases hit
  ·cases hit
 ·have M':=MemS.addLay (M.keep hC) M.size (fun y hy=>by obtain⟨k,hk⟩:=List.mem_iff_getElem?.1 hy;exact lt_of_block (M.has k y hk)) (fun q hq g hg=>(ownsRow_lt (M.rows q hq) hg).2) specs 0 hfacts (fun i j hi hj hij=>by
   rw [Nat.zero_add,Nat.zero_add];exact hne i j hi hj hij)
  have F':=(Fr.putAll ops.toList (lvals specs nb 0) a l F hd).keepS out
  rw [h2]at F'
  rw [h3]at M'
  exact g nb _ _ F' M'
theorem eqA_ok {o:Oper}{x y:Operand}{t t' e:TypeId}{m:Nat}{k:IntKind}{A B:List Nat}{b:Bool}(ho:o.op=.binOp .eql t x y t')(hu:P.underlying t=some (.array m e))(he:P.underlying e=some (.int k))(hi:(P.info? e).isSome=true)(hc:P.cellsOf e=1)(hq:P.eqGuardType P.depth t=false)
  (hx:evO l x=some (.agg (cn k A))) (hy:evO l y=some (.agg (cn k B))) (hA:A.length=m) (hB:B.length=m) (hb:decide (A=B)=b):RunV P l L o (.bool b):=fun ρ w Ag _=>by
 have h1:=Ag x _ hx
 have h2:=Ag y _ hy
 obtain⟨i,hi⟩:=Option.isSome_iff_exists.1 hi
 rw [cn_ints]at h1 h2
 have e1:=run_equalIn_ints (P:=P) w 9998 m k hu he hi hc (A.map fun(n:Nat)=>(n:Int)) (B.map fun(n:Nat)=>(n:Int)) (by simpa using hA) (by simpa using hB)
 have e2:(eqGuard .eql t x y (.agg (intCells k (A.map fun(n:Nat)=>(n:Int)))) (.agg (intCells k (B.map fun(n:Nat)=>(n:Int))))).run P w=.ok () w:=by simp [eqGuard,hq]
 have e3:((A.map fun(n:Nat)=>(n:Int)) == (B.map fun(n:Nat)=>(n:Int)))=decide (A=B):=by
  rw [Bool.eq_iff_iff,beq_iff_eq,decide_eq_true_eq]
  refine⟨fun h=>?_,fun h=>by rw [h]⟩
  refine List.ext_getElem (by omega) fun i h1 h2=>?_
  have:=congrArg (fun l=>l[i]?) h
  simp [h1,h2]at this
  omega
 rw [e3,hb]at e1
 simp only [execOp,ho,h1,h2,Sem.run_bind,e2,Result.andThen_ok,run_eql_struct,e1,Sem.run_pure]
end
end Go.Proofs.YtdokjecjiifciaaGreatDoor
namespace Go.Proofs.YtdokjecjiifciaaGreatDoor
open Go.RowKit
section
variable {P:Program} {ops:Array Oper} {rest:List Oper} {op:Oper} {a:Act} {w0 w w':World} {Q:Exit→Act→World→Prop} {n:Nat} {l:Slots} {L:Blks} {S:Nat→Prop} {R:List Row}
theorem MemS.rowNil (M:MemS S w0 w L R)(e:TypeId)(k:Nat):MemS S w0 w L ((.slice none 0 0,e,k,0,[])::R):=
 ⟨M.os,M.tape,M.output,M.size,M.block,M.old,M.has,M.apart,M.base,fun r hr=>(List.mem_cons.1 hr).elim (fun e=>by subst e;exact⟨by simp,.inl ⟨rfl,rfl⟩⟩) (M.rows r),
  fun r hr g hg=>(List.mem_cons.1 hr).elim (fun e=>by subst e;cases hg) (fun h=>M.rowsL r h g hg),fun i j r r' hi hj hij g hg=>by
   cases i with
   | zero=>simp at hi;subst hi;cases hg
   | succ i=>
    cases j with
    | zero=>simp at hj;subst hj;exact fun h=>nomatch h
    | succ j=>exact M.rowsR i j r r' (by simpa using hi) (by simpa using hj) (by omega) g hg⟩
theorem MemS.freeze {g m k cap:Nat}{e:TypeId}{X:List Value}(M:MemS S w0 w L ((.slice (some ⟨g,0,none⟩) m cap,e,k,m,X)::R)):∃cur:Array Value,MemS S w0 w ((g,.cells cur e)::L) R∧w0.heap.size≤g∧m≤cap∧cap≤maxLen∧cur.size=cap*k∧cur.toList.take (m*k)=X∧X.length=m*k:=by
 obtain⟨h1,⟨h,_⟩ | ⟨g',cap',cur,h,h2,h3,h4,h5,h6,h7⟩⟩:=M.rows _ (List.mem_cons_self ..)
 ·cases h
 ·simp only [Value.slice.injEq,Option.some.injEq,Addr.mk.injEq,and_true,true_and]at h
  obtain⟨rfl,rfl⟩:=h
  refine⟨cur,⟨M.os,M.tape,M.output,M.size,M.block,M.old,fun i x h=>?_,fun i j x y h h' hij=>?_,fun i x h=>?_,fun r hr=>M.rows r (List.mem_cons_of_mem _ hr),fun r hr g' hg' x hx=>?_,fun i j r r' hi hj hij=>M.rowsR (i+1) (j+1) r r' (by simpa using hi) (by simpa using hj) (by omega)⟩,h2,h4,h5,h6,h7,h1⟩
  ·cases i with
   | zero=>simp at h;subst h;exact h3
   | succ i=>exact M.has i x (by simpa using h)
  ·have key:∀(i:Nat) (x:Nat×Obj),L[i]? = some x→x.1≠g:=fun i x hx=>M.rowsL _ (List.mem_cons_self ..) g rfl x (List.mem_of_getElem? hx)
   cases i with
   | zero=>
    simp at h;subst h
    cases j with
    | zero=>omega
    | succ j=>exact Ne.symm (key j y (by simpa using h'))
   | succ i=>
    cases j with
    | zero=>simp at h';subst h';exact key i x (by simpa using h)
    | succ j=>exact M.apart i j x y (by simpa using h) (by simpa using h') (by omega)
  ·cases i with
   | zero=>simp at h;subst h;exact fun hs=>by have:=M.old _ hs;simp only at this;omega
   | succ i=>exact M.base i x (by simpa using h)
  ·rcases List.mem_cons.1 hx with rfl | hx
   ·obtain⟨i,hi⟩:=List.mem_iff_getElem?.1 hr
    exact fun e=>M.rowsR 0 (i+1) _ r rfl (by simpa using hi) (by omega) g rfl (by simp only at e;rw [hg',e])
   ·exact M.rowsL r (List.mem_cons_of_mem _ hr) g' hg' x hx
theorem MemS.rowLen {v:Value}{m k:Nat}{e:TypeId}{X:List Value}(M:MemS S w0 w L ((v,e,k,m,X)::R)):∃p cap,v=.slice p m cap∧X.length=m*k:=by
 have hrow:w.ownsRow w0.heap.size e k v m X:=M.rows _ (List.mem_cons_self ..)
 obtain⟨h0,⟨h,h'⟩ | ⟨g,cap,cur,h,_⟩⟩:=hrow
 ·exact⟨none,0,by rw [h,h'],h0⟩
 ·exact⟨_,cap,h,h0⟩
theorem MemS.dropRow {r:Row}(M:MemS S w0 w L (r::R)):MemS S w0 w L R:=
 ⟨M.os,M.tape,M.output,M.size,M.block,M.old,M.has,M.apart,M.base,fun r hr=>M.rows r (List.mem_cons_of_mem _ hr),fun r hr=>M.rowsL r (List.mem_cons_of_mem _ hr),fun i j r r' hi hj hij=>M.rowsR (i+1) (j+1) r r' (by simpa using hi) (by simpa using hj) (by omega)⟩
theorem st_app (out:List Nat){v:Value}{m k bb:Nat}{e:TypeId}{X:List Value}(F:Fr n a l)(M:MemS S w0 w L ((v,e,k,m,X)::R)){d s x:Nat}{t:TypeId}{ad:Addr}{q c:Nat}{Y:List Value}{z:Value}
  (ho:op.op=.call ⟨.builtin .append,#[.tmp s,.tmp x],#[t,t]⟩) (hs:look s l=some v) (hx:look x l=some (.slice (some ad) q c)) (hY:Y.length=q*k) (hl:∀(j:Nat) u,Y[j]? = some u→w.cell? (ad.add j)=some u) (h1:∀u∈Y,u.oneCell'=true) (hq:0<q)
  (ht:P.underlying t=some (.slice e)) (hi:(P.info? e).map (fun i=>(i.size,i.zero,i.bytes))=some (k,some z,bb)) (hz:z.cells.size=k) (hk:0<k) (h63:m+q≤maxLen) (hbytes:(m+q)*bb≤140737488355328)
  (hd:op.dst=some d) (hg:op.guard=none) (hn:d<n)
  (K:∀a' w' v',Fr n a' (keepS out (upd d v' l))→MemS S w0 w' L ((v',e,k,m+q,X++Y)::R)→wpList P ops Q rest a' w'):wpList P ops Q (op::rest) a w:=by
 obtain⟨i,hi,h2⟩:=Option.map_eq_some_iff.1 hi
 simp only [Prod.mk.injEq]at h2
 obtain⟨s1,s2,s3⟩:=h2
 have hown:=M.rows _ (List.mem_cons_self ..)
 refine wpList_append_lies w hg (.tmp s) (.tmp x) t ho w0.heap.size e i z k bb ht hi s2 s1 s3 hz hk v m X (eval_tmp (F.lk s _ hs)) hown ad q c Y (eval_tmp (F.lk x _ hx)) hY hl h1 hq h63 hbytes M.size w.heap.size rfl fun g cap w' ow gr at3 lt3=>?_
 have F':=F.put (d:=d) (.slice (some ⟨g,0,none⟩) (m+q) cap) hn
 rw [hd]
 refine K _ _ _ (F'.keepS out) ?_
 have blk:∀b,b<w.heap.size→(∀g',v.ownBlock=some g'→b≠g')→w'.heap[b]? = w.heap[b]?:=fun b hb hne=>gr.block b hb (fun e=>hne b e.symm rfl)
 have gne:∀b,b<w.heap.size→(∀g',v.ownBlock=some g'→b≠g')→b≠g:=fun b hb hne=>by
  rcases at3 with h | h
  ·exact hne g h
  ·rw [h];exact Nat.ne_of_lt hb
 have hvL:∀x∈L,∀g',v.ownBlock=some g'→x.1≠g':=fun x hx g' hg'=>M.rowsL _ (List.mem_cons_self ..) g' hg' x hx
 have hltL:∀x∈L,x.1<w.heap.size:=fun x hx=>by obtain⟨j,hj⟩:=List.mem_iff_getElem?.1 hx;exact lt_of_block (M.has j x hj)
 have hvR:∀r∈R,∀b,r.1.ownBlock=some b→∀g',v.ownBlock=some g'→b≠g':=fun r hr b hb g' hg' e=>by
  obtain⟨j,hj⟩:=List.mem_iff_getElem?.1 hr
  exact M.rowsR 0 (j+1) _ r rfl (by simpa using hj) (by omega) g' hg' (by rw [hb,e])
 refine⟨gr.os.trans M.os,gr.tape.trans M.tape,gr.output.trans M.output,Nat.le_trans M.size gr.size,fun b hb=>?_,M.old,fun j x hx=>?_,M.apart,M.base,fun r hr=>?_,fun r hr g' hg' x hx=>?_,fun i j r r' hi hj hij g' hg'=>?_⟩
 ·exact(blk b (Nat.lt_of_lt_of_le (M.old b hb) M.size) (fun g' hg' e=>by have:=(ownsRow_lt hown hg').1;have:=M.old b hb;omega)).trans (M.block b hb)
 ·exact(blk x.1 (lt_of_block (M.has j x hx)) (hvL x (List.mem_of_getElem? hx))).trans (M.has j x hx)
 ·rcases List.mem_cons.1 hr with rfl | hr
  ·exact ow
  ·exact ownsRow_keep (M.rows r (List.mem_cons_of_mem _ hr)) fun b hb=>blk b (ownsRow_lt (M.rows r (List.mem_cons_of_mem _ hr)) hb).2 (hvR r hr b hb)
 ·rcases List.mem_cons.1 hr with rfl | hr
  ·obtain rfl:g=g':=by simpa [Value.ownBlock]using hg'
   exact gne x.1 (hltL x hx) (hvL x hx)
  ·exact M.rowsL r (List.mem_cons_of_mem _ hr) g' hg' x hx
 ·cases i with
  | zero=>
   simp at hi
   subst hi
   obtain rfl:g=g':=by simpa [Value.ownBlock]using hg'
   cases j with
   | zero=>omega
   | succ j=>
    have hr':r'∈R:=List.mem_of_getElem? (by simpa using hj)
    exact fun h=>gne g (ownsRow_lt (M.rows r' (List.mem_cons_of_mem _ hr')) h).2 (hvR r' hr' g h) rfl
  | succ i=>
   have hr:r∈R:=List.mem_of_getElem? (by simpa using hi)
   cases j with
   | zero=>
    simp at hj
    subst hj
    intro h
    have:g=g':=by simpa [Value.ownBlock]using h
    exact gne g' (ownsRow_lt (M.rows r (List.mem_cons_of_mem _ hr)) hg').2 (hvR r hr g' hg') this.symm
   | succ j=>exact M.rowsR (i+1) (j+1) r r' (by simpa using hi) (by simpa using hj) hij g' hg'
theorem bcells_app (X Y:List Nat):bcells X++bcells Y=bcells (X++Y):=by simp [bcells]
theorem bcells_cn (X:List Nat):(cn .u8 X).toList=bcells X:=by simp [cn,bcells]
theorem bcells_one (X:List Nat):∀u∈bcells X,u.oneCell'=true:=fun u hu=>by
 obtain⟨x,_,rfl⟩:=List.mem_map.1 hu;rfl
theorem st_strS (out:List Nat){v:Value}{m:Nat}{e:TypeId}{X:List Nat}(F:Fr n a l)(M:MemS S w0 w L ((v,e,1,m,bcells X)::R))(hX:∀i,X.getD i 0<256){d s:Nat}{src dst:TypeId}
  (ho:op.op=.convert src dst (.tmp s)) (hs:look s l=some v) (h1:P.underlying src=some (.slice e)) (h2:P.underlying e=some (.int .u8)) (h3:P.underlying dst=some .string)
  (hd:op.dst=some d) (hg:op.guard=none) (hn:d<n) (K:∀a',Fr n a' (keepS out (upd d (.string (bs X)) l))→wpList P ops Q rest a' w):wpList P ops Q (op::rest) a w:=by
 have hv:=eval_tmp (F.lk s _ hs)
 have hrow:w.ownsRow w0.heap.size e 1 v m (bcells X):=M.rows _ (List.mem_cons_self ..)
 obtain⟨h0,⟨rfl,rfl⟩ | ⟨g,cap,cur,rfl,q2,q3,q4,q5,q6,q7⟩⟩:=hrow
 ·have hX0:X=[]:=by simpa [bcells]using h0
  subst hX0
  have h:=run_convert_bytes_nil (P:=P) w src e h1 h2 0 0 dst h3
  refine wpList_run hg (v:=.string (bs [])) ?_ (K _ (by rw [hd];exact(F.put _ hn).keepS out))
  simp only [execOp,ho,hv,Sem.run_bind,h,Result.andThen_ok,Sem.run_pure]
  rfl
 ·have hl:X.length=m:=by simpa [bcells]using h0
  have h:=run_convert_bytes_arg (P:=P) w src e h1 h2 g 0 m cap (X.map fun(x:Nat)=>(x:Int)) (by simpa using hl) (fun i hi=>by
   rw [Nat.zero_add,cell_of q3]
   have e1:=congrArg (fun l=>l[i]?) q7
   simp only [Nat.mul_one]at e1
   rw [List.getElem?_take,if_pos hi]at e1
   rw [show cur[i]? = cur.toList[i]? by simp,e1]
   simp [bcells,hl,hi]) dst h3
  have e2:strOfNums (X.map fun(x:Nat)=>(x:Int))=bs X:=by simp [strOfNums,bs,Function.comp_def]
  rw [e2]at h
  refine wpList_run hg (v:=.string (bs X)) ?_ (K _ (by rw [hd];exact(F.put _ hn).keepS out))
  simp only [execOp,ho,hv,Sem.run_bind,h,Result.andThen_ok,Sem.run_pure]
def Distinct:Blks→Prop
 | []=>True
 | x::r=>(∀y∈r,y.1≠x.1)∧Distinct r
theorem Distinct.get:∀{L:Blks},Distinct L→∀(i j:Nat) (x y:Nat×Obj),L[i]? = some x→L[j]? = some y→i≠j→x.1≠y.1
 | [],_,i,_,_,_,h,_,_=>by simp at h
 | z::r,⟨h1,h2⟩,i,j,x,y,hx,hy,hij=>by
  cases i with
  | zero=>
   simp at hx;subst hx
   cases j with
   | zero=>omega
   | succ j=>exact Ne.symm (h1 y (List.mem_of_getElem? (by simpa using hy)))
  | succ i=>
   cases j with
   | zero=>simp at hy;subst hy;exact h1 x (List.mem_of_getElem? (by simpa using hx))
   | succ j=>exact Distinct.get h2 i j x y (by simpa using hx) (by simpa using hy) (by omega)
theorem MemS.startN {w:World}{L:Blks}(h:Has w L)(hd:Distinct L):MemS (fun k=>k<w.heap.size∧∀x∈L,x.1≠k) w w L []:=
 ⟨rfl,rfl,rfl,Nat.le_refl _,fun _ _=>rfl,fun _ h=>h.1,h,hd.get,fun i x hx hs=>hs.2 x (List.mem_of_getElem? hx) rfl,fun r h=>(nomatch h),fun r h=>(nomatch h),fun i j r r' h=>by simp at h⟩
theorem MemS.belowN {L0:Blks}(M:MemS (fun k=>k<w0.heap.size∧∀x∈L0,x.1≠k) w0 w L R)(H:Has w0 L0)(h:∀x∈L0,x∈L):Below w0.heap.size w0 w:=
 ⟨M.os,M.tape,M.output,M.size,fun k hk=>by
  by_cases e:∃x∈L0,x.1=k
  ·obtain⟨x,hx,rfl⟩:=e
   obtain⟨i,hi⟩:=List.mem_iff_getElem?.1 (h x hx)
   obtain⟨j,hj⟩:=List.mem_iff_getElem?.1 hx
   rw [M.has i x hi,H j x hj]
  ·exact M.block k ⟨hk,fun x hx e'=>e ⟨x,hx,e'⟩⟩⟩
end
end Go.Proofs.YtdokjecjiifciaaGreatDoor
namespace Go.Proofs.YtdokjecjiifciaaGreatDoor
open Go.RowKit
section
variable {P:Program} {ops:Array Oper} {rest:List Oper} {op:Oper} {a:Act} {w0 w w':World} {Q:Exit→Act→World→Prop} {n:Nat} {l:Slots} {L:Blks} {S:Nat→Prop} {R:List Row}
def RunB (P:Program)(l:Slots)(L:Blks)(o:Oper)(ob:Nat→Obj)(mk:Nat→Nat→Value):Prop:=
 ∀(ρ:Operand→Value) (w:World),Agr ρ l→Has w L→∃c w1,Below w.heap.size w w1∧w1.heap.size=w.heap.size∧(execOp ρ o).run P w=.ok (.value (mk w.heap.size c)) (w1.alloc (ob c))
theorem bytes_ok {o:Oper}{x:Operand}{src dst e:TypeId}{X:List Nat}(ho:o.op=.convert src dst x)(hx:evO l x=some (.string (bs X)))(hX:∀i,X.getD i 0<256)(hs:P.underlying src=some .string)(hd:P.underlying dst=some (.slice e))(he:P.underlying e=some (.int .u8)) :
  RunB P l L o (fun c=>.cells (cn .u8 (X++List.replicate c 0)) e (X.length+c,X.length+c+1)) (fun b c=>.slice (some ⟨b,0,none⟩) X.length (X.length+c)):=fun ρ w A _=>by
 have et:=A x _ hx
 have h:=run_bytes_of_string (P:=P) w src dst e (bs X) hs hd he
 rw [bytesRow_cn X hX,bs_size]at h
 have hge:=grownCap_ge w X.length 0 e
 have hsz:(cn .u8 (X++List.replicate (grownCap w X.length 0 e-X.length) 0)).size=grownCap w X.length 0 e:=by rw [cZ];simp;omega
 rw [hsz]at h
 refine⟨grownCap w X.length 0 e-X.length,w.drew,(Below.refl _ _).drew,rfl,?_⟩
 show _=Result.ok (Next.value (.slice (some ⟨w.heap.size,0,none⟩) X.length (X.length+(grownCap w X.length 0 e-X.length)))) (w.drew.alloc (.cells (cn .u8 (X++List.replicate (grownCap w X.length 0 e-X.length) 0)) e (X.length+(grownCap w X.length 0 e-X.length),X.length+(grownCap w X.length 0 e-X.length)+1)))
 rw [show X.length+(grownCap w X.length 0 e-X.length)=grownCap w X.length 0 e by omega]
 simp only [execOp,ho,et,Sem.run_bind,h,Result.andThen_ok,Sem.run_pure]
theorem st_new (out:List Nat){d:Nat}{ob:Nat→Obj}{mk:Nat→Nat→Value}(F:Fr n a l)(M:MemS S w0 w L R)(hr:RunB P l L op ob mk)(hd:op.dst=some d)(hg:op.guard=none)(hn:d<n)
  (K:∀a' w' b c,Fr n a' (keepS out (upd d (mk b c) l))→MemS S w0 w' ((b,ob c)::L) R→wpList P ops Q rest a' w'):wpList P ops Q (op::rest) a w:=by
 obtain⟨c,w1,hb,hsz,hrun⟩:=hr a.eval w F.agr M.hasL
 refine wpList_run hg hrun (K _ _ _ c (by rw [hd];exact(F.put _ hn).keepS out) ?_)
 have p:Post w (w1.alloc (ob c)) L ⟨fun b=>mk b c,some (ob c),[]⟩ w.heap.size:=by
  have hb':=hb.alloc (Nat.le_of_eq hsz.symm) (ob c)
  refine⟨hb'.os,hb'.tape,hb'.output,hb'.size,fun k hk _=>hb'.block k hk,fun o ho=>?_,fun h=>(by cases h),fun u hu=>(by cases hu)⟩
  obtain rfl:=Option.some.inj ho
  refine⟨rfl,?_⟩
  rw [←hsz]
  exact heap_new w1 (ob c)
 have M':=M.post p
 rw [newL_eq]at M'
 simpa [setAll_nil]using M'
abbrev Item2:Type:=Value⊕((Nat→Obj)×(Nat→Nat→Value))
def val2 (s:Item2)(b c:Nat):Value:=match s with | .inl v=>v | .inr (_,mk)=>mk b c
def holds2 (base:Nat)(s:Item2)(x:Option Value)(w:World):Prop:=match s with | .inl v=>x=some v | .inr (o,mk)=>∃b c,x=some (mk b c)∧base≤b∧w.heap[b]? = some (o c)
def spec2 (base:Nat)(specs:List Item2)(i:Nat)(v:Value)(w:World):Prop:=match specs[i]? with | some s=>holds2 base s (some v) w | none=>True
def vals2:List Item2→(Nat→Nat)→(Nat→Nat)→Nat→List Value
 | [],_,_,_=>[]
 | s::l,b,c,k=>val2 s (b k) (c k)::vals2 l b c (k+1)
theorem vals2_len:∀(l:List Item2) (b c:Nat→Nat) (k:Nat),(vals2 l b c k).length=l.length
 | [],_,_,_=>rfl
 | _::l,b,c,k=>by simp [vals2,vals2_len l]
theorem vals2_get:∀(specs:List Item2) (b c:Nat→Nat) (k i:Nat) s,specs[i]? = some s→(vals2 specs b c k)[i]? = some (val2 s (b (k+i)) (c (k+i)))
 | [],_,_,_,_,_,h=>by simp at h
 | x::l,b,c,k,0,s,h=>by
  simp at h
  subst h
  simp [vals2]
 | x::l,b,c,k,i+1,s,h=>by
  have:=vals2_get l b c (k+1) i s (by simpa using h)
  rw [show k+1+i=k+(i+1)by omega]at this
  simpa [vals2]using this
theorem holds2_up {base:Nat}{s:Item2}{x:Option Value}{w w':World}(h:holds2 base s x w)(hb:Below w.heap.size w w'):holds2 base s x w':=by
 match s,h with
 | .inl _,h=>exact h
 | .inr (o,mk),⟨b,c,h1,h3,h2⟩=>exact⟨b,c,h1,h3,(hb.block b (lt_of_block h2)).trans h2⟩
def slots2 (ops:List Oper)(specs:List Item2)(nb cp:Nat→Nat):List Nat→Slots
 | []=>[]
 | j::r=>match(ops[j]?).bind (·.dst),specs[j]? with | some d,some s=>(d,val2 s (nb j) (cp j))::slots2 ops specs nb cp r | _,_=>slots2 ops specs nb cp r
def blks2 (specs:List Item2)(nb cp:Nat→Nat):List Nat→Blks
 | []=>[]
 | j::r=>match specs[j]? with | some (.inr (ob,_))=>(nb j,ob (cp j))::blks2 specs nb cp r | _=>blks2 specs nb cp r
def y_:Hint:=(10,0,[],[])
def g_ (j:Nat):Hint:=(11,j,[],[])
def dres2 (P:Program)(ops:List Oper)(specs:List Item2)(nb cp:Nat→Nat)(lo:Slots)(L:Blks):List Oper→List Item2→List Hint→Option (List Item2×List Prop)
 | [],_,_=>some ([],[])
 | _::_,[],_=>none
 | _::_,_::_,[]=>none
 | o::rest,s::ss,h::hs=>
  match dres2 P ops specs nb cp lo L rest ss hs with
  | none=>none
  | some (is,cs)=>
   match wantOf ops (slots2 ops specs nb cp (depsOf o)++lo) o with
   | some true=>
    match h.1,s with
    | 10,.inr (ob,mk)=>some (.inr (ob,mk)::is,RunB P (slots2 ops specs nb cp (depsOf o)++lo) (blks2 specs nb cp (depsOf o)++L) o ob mk::cs)
    | 11,.inr (ob,mk)=>
     match aev P (slots2 ops specs nb cp (depsOf o)++lo) (blks2 specs nb cp (depsOf o)++L) (0,0,h.2.2) o,specs[h.2.1]?,(depsOf o).contains h.2.1&&((ops[h.2.1]?).bind (·.dst)).isSome with
     | some (r,cs'),some (.inr (ob',_)),true=>match r.ups,r.new with
      | [],none=>some (.inr (ob,mk)::is,cs'++((r.val 0=mk (nb h.2.1) (cp h.2.1))::(ob' (cp h.2.1)=ob (cp h.2.1))::cs))
      | _,_=>none
     | _,_,_=>none
    | _,_=>
     match aev P (slots2 ops specs nb cp (depsOf o)++lo) (blks2 specs nb cp (depsOf o)++L) h o with
     | some (r,cs')=>match r.ups,r.new with
      | [],none=>some (.inl (r.val 0)::is,cs'++cs)
      | [],some ob=>some (.inr (fun _=>ob,fun b _=>r.val b)::is,cs'++cs)
      | _,_=>none
     | none=>none
   | some false=>some (.inl undef::is,cs)
   | none=>none
def Ok2 (P:Program)(os:List Oper)(specs:List Item2)(nb cp:Nat→Nat)(lo:Slots)(L:Blks)(o:Oper)(s:Item2)(way:Nat):Prop:=
  (wantOf os (slots2 os specs nb cp (depsOf o)++lo) o=some true∧(
    (∃ob mk,s=.inr (ob,mk)∧RunB P (slots2 os specs nb cp (depsOf o)++lo) (blks2 specs nb cp (depsOf o)++L) o ob mk)∨
    ∃h r cs',aev P (slots2 os specs nb cp (depsOf o)++lo) (blks2 specs nb cp (depsOf o)++L) h o=some (r,cs')∧(∀c∈cs',c)∧r.ups=[]∧
      ((r.new=none∧s=.inl (r.val 0))∨(∃ob,r.new=some ob∧s=.inr (fun _=>ob,fun b _=>r.val b))∨
       (∃ob mk ob' mk' j,way=11∧r.new=none∧s=.inr (ob,mk)∧specs[j]? = some (.inr (ob',mk'))∧j∈depsOf o∧((os[j]?).bind (·.dst)).isSome=true∧r.val 0=mk (nb j) (cp j)∧ob' (cp j)=ob (cp j)))))∨
  (wantOf os (slots2 os specs nb cp (depsOf o)++lo) o=some false∧s=.inl undef)
theorem dres2_get {os:List Oper}{specs:List Item2}{nb cp:Nat→Nat}{lo:Slots}:∀(pre:List Oper) (ss:List Item2) (hs:List Hint) (is:List Item2) (cs:List Prop),dres2 P os specs nb cp lo L pre ss hs=some (is,cs)→(∀c∈cs,c)→
  ∀(i:Nat) (o:Oper) (s:Item2),pre[i]? = some o→is[i]? = some s→∃h,hs[i]? = some h∧Ok2 P os specs nb cp lo L o s h.1
 | [],_,_,_,_,_,_,i,o,s,h,_=>by simp at h
 | _::_,[],_,_,_,h,_,_,_,_,_,_=>by cases h
 | _::_,_::_,[],_,_,h,_,_,_,_,_,_=>by cases h
 | x::rest,s1::ss,h::hs,is,cs,hd,hc,i,o,s,ho,hs'=>by
  simp only [dres2]at hd
  split at hd <;> first | (cases hd;done) | skip
  rename_i is1 cs1 h1
  have tail:(∀c∈cs1,c)→∀j,rest[j]? = some o→is1[j]? = some s→∃h',(h::hs)[j+1]? = some h'∧Ok2 P os specs nb cp lo L o s h'.1:=fun hc1 j hj hj'=>by simpa using dres2_get rest ss hs is1 cs1 h1 hc1 j o s hj hj'
  split at hd <;> first | (cases hd;done) | skip
  ·rename_i hw
   split at hd
   ·rename_i ob mk hh
    simp only [Option.some.injEq,Prod.mk.injEq]at hd
    obtain⟨rfl,rfl⟩:=hd
    cases i with
    | zero=>
     simp at ho hs'
     subst ho hs'
     exact⟨h,by simp,.inl ⟨hw,.inl ⟨_,_,rfl,hc _ (by simp)⟩⟩⟩
    | succ j=>exact tail (fun c hc'=>hc c (by simp [hc'])) j (by simpa using ho) (by simpa using hs')
   ·rename_i ob mk hh
    split at hd <;> first | (cases hd;done) | skip
    rename_i r cs2 ob' mk' hr hsp hdp
    split at hd <;> first | (cases hd;done) | skip
    rename_i hu hn
    simp only [Option.some.injEq,Prod.mk.injEq]at hd
    obtain⟨rfl,rfl⟩:=hd
    cases i with
    | zero=>
     simp at ho hs'
     subst ho hs'
     simp only [Bool.and_eq_true]at hdp
     exact⟨h,by simp,.inl ⟨hw,.inr ⟨_,r,cs2,hr,fun c hc'=>hc c (by simp [hc']),hu,.inr (.inr ⟨ob,mk,ob',mk',h.2.1,hh,hn,rfl,hsp,by simpa using hdp.1,hdp.2,hc _ (by simp),hc _ (by simp)⟩)⟩⟩⟩
    | succ j=>exact tail (fun c hc'=>hc c (by simp [hc'])) j (by simpa using ho) (by simpa using hs')
   ·split at hd <;> first | (cases hd;done) | skip
    rename_i r cs2 hr
    split at hd <;> first | (cases hd;done) | skip
    ·rename_i hu hn
     simp only [Option.some.injEq,Prod.mk.injEq]at hd
     obtain⟨rfl,rfl⟩:=hd
     cases i with
     | zero=>
      simp at ho hs'
      subst ho hs'
      exact⟨h,by simp,.inl ⟨hw,.inr ⟨h,r,cs2,hr,fun c hc'=>hc c (by simp [hc']),hu,.inl ⟨hn,rfl⟩⟩⟩⟩
     | succ j=>exact tail (fun c hc'=>hc c (by simp [hc'])) j (by simpa using ho) (by simpa using hs')
    ·rename_i ob hu hn
     simp only [Option.some.injEq,Prod.mk.injEq]at hd
     obtain⟨rfl,rfl⟩:=hd
     cases i with
     | zero=>
      simp at ho hs'
      subst ho hs'
      exact⟨h,by simp,.inl ⟨hw,.inr ⟨h,r,cs2,hr,fun c hc'=>hc c (by simp [hc']),hu,.inr (.inl ⟨ob,hn,rfl⟩)⟩⟩⟩
     | succ j=>exact tail (fun c hc'=>hc c (by simp [hc'])) j (by simpa using ho) (by simpa using hs')
  ·rename_i hw
   simp only [Option.some.injEq,Prod.mk.injEq]at hd
   obtain⟨rfl,rfl⟩:=hd
   cases i with
   | zero=>
    simp at ho hs'
    subst ho hs'
    exact⟨h,by simp,.inr ⟨hw,rfl⟩⟩
   | succ j=>exact tail hc j (by simpa using ho) (by simpa using hs')
theorem slots2_mem {os:List Oper}{specs:List Item2}{nb cp:Nat→Nat}:∀(js:List Nat) (t:Nat) (v:Value),(t,v)∈slots2 os specs nb cp js→∃j∈js,∃s,(os[j]?).bind (·.dst)=some t∧specs[j]? = some s∧v=val2 s (nb j) (cp j)
 | [],_,_,h=>by cases h
 | j::r,t,v,h=>by
  unfold slots2 at h
  split at h
  ·rename_i d s h1 h2
   rcases List.mem_cons.1 h with h | h
   ·simp only [Prod.mk.injEq]at h
    obtain⟨rfl,rfl⟩:=h
    exact⟨j,by simp,s,h1,h2,rfl⟩
   ·obtain⟨j',hj,x⟩:=slots2_mem r t v h
    exact⟨j',by simp [hj],x⟩
  ·obtain⟨j',hj,x⟩:=slots2_mem r t v h
   exact⟨j',by simp [hj],x⟩
theorem blks2_mem {specs:List Item2}{nb cp:Nat→Nat}:∀(js:List Nat) (x:Nat×Obj),x∈blks2 specs nb cp js→∃j∈js,∃ob mk,specs[j]? = some (.inr (ob,mk))∧x.1=nb j∧x.2=ob (cp j)
 | [],_,h=>by cases h
 | j::r,x,h=>by
  unfold blks2 at h
  split at h
  ·rename_i ob mk h1
   rcases List.mem_cons.1 h with rfl | h
   ·exact⟨j,by simp,ob,mk,h1,rfl,rfl⟩
   ·obtain⟨j',hj,y⟩:=blks2_mem r x h
    exact⟨j',by simp [hj],y⟩
  ·obtain⟨j',hj,y⟩:=blks2_mem r x h
   exact⟨j',by simp [hj],y⟩
def Fs2 (specs:List Item2):List Nat→Prop
 | []=>True
 | i::r=>(∃o,specs[i]? = some (.inr (fun _=>o,fun b _=>.pointer (some ⟨b,0,none⟩))))∧memB i r=false∧Fs2 specs r
theorem Fs2.get {specs:List Item2}:∀{fs:List Nat},Fs2 specs fs→∀i∈fs,∃o,specs[i]? = some (.inr (fun _=>o,fun b _=>.pointer (some ⟨b,0,none⟩)))
 | [],_,i,h=>by cases h
 | j::r,⟨h1,_,h3⟩,i,h=>by
  rcases List.mem_cons.1 h with rfl | h
  ·exact h1
  ·exact Fs2.get h3 i h
theorem MemS.addFs2 {specs:List Item2}{nb cp:Nat→Nat}(M:MemS S w0 w' L R){base:Nat}(hb0:w0.heap.size≤base)(hbL:∀(i:Nat) (x:Nat×Obj),L[i]? = some x→x.1<base)(hbR:∀q∈R,∀g,q.1.ownBlock=some g→g<base)
  (hf:∀(i:Nat) ob mk,specs[i]? = some (.inr (ob,mk))→base≤nb i∧w'.heap[nb i]? = some (ob (cp i))) :
  ∀(fs:List Nat),Fs2 specs fs→(∀i j,i∈fs→j∈fs→i≠j→nb i≠nb j)→MemS S w0 w' (blks2 specs nb cp fs++L) R
 | [],_,_=>M
 | i::r,⟨⟨o,ho⟩,hnd,h3⟩,hne=>by
  have ih:=MemS.addFs2 M hb0 hbL hbR hf r h3 (fun a b ha hb=>hne a b (by simp [ha]) (by simp [hb]))
  have hfi:=hf i _ _ ho
  have e:blks2 specs nb cp (i::r)=(nb i,o)::blks2 specs nb cp r:=by simp [blks2,ho]
  rw [e]
  refine MemS.consN (x:=(nb i,o)) ih hb0 hfi.1 hfi.2 (fun y hy=>?_) hbR
  rcases List.mem_append.1 hy with h | h
  ·obtain⟨j,hj,_,_,hs,e,_⟩:=blks2_mem r y h
   rw [e]
   exact hne j i (by simp [hj]) (by simp) (fun e=>memB_false r hnd (e▸hj))
  ·obtain⟨k',hk'⟩:=List.mem_iff_getElem?.1 h
   have:=hbL k' y hk'
   have:=hfi.1
   simp only
   omega
theorem rg_draw2 {id:Nat}(F:Fr n a l)(M:MemS S w0 w L R)(specs:List Item2)(fs:List Nat)(hs hs':List Hint)(out:List Nat)(C:(Nat→Nat)→(Nat→Nat)→List Prop)(G:(Nat→Nat)→(Nat→Nat)→(Slots→Blks→Prop)→Prop)
  (hm:P.follows .mixedOrders=true) (hG:goodB ops.toList specs.length n=true) (hd:dstsB n ops.toList=true)
  (h1:∀nb cp,dres2 P ops.toList specs nb cp (dropS (dstsOf (ops.toList.take specs.length)) l) L (ops.toList.take specs.length) specs hs=some (specs,C nb cp))
  (h2:∀nb cp K,awp P ops.toList out K (ops.toList.drop specs.length) hs' (pairsOf (ops.toList.take specs.length) (vals2 specs nb cp 0) l) (blks2 specs nb cp fs++L)=G nb cp K)
  (hf:Fs2 specs fs) (hq:(fs.all fun i=>match hs[i]? with | some h=>Nat.blt h.1 10 | none=>true)=true) (c:∀nb cp,allC (C nb cp) True) (g:∀nb cp,G nb cp (fun l' L'=>∀a' w',Fr n a' l'→MemS S w0 w' L' R→Q .normal a' w')):(Code.region id ops true).wp P Q a w:=by
 have lt:∀{k:Nat} {s:Item2},specs[k]? = some s→k<specs.length:=fun{k s} h=>by
  rcases Nat.lt_or_ge k specs.length with h' | h'
  ·exact h'
  ·rw [List.getElem?_eq_none h']at h;cases h
 refine region_free specs.length (C:=fun w'=>Below w.heap.size w w') (spec2 w.heap.size specs) (fun i=>fs.contains i) hm (by rw [F.size];exact hG) ⟨rfl,rfl,rfl,Nat.le_refl _,fun _ _=>rfl⟩ (fun w1 w2 h h'=>h.trans (h'.mono h.size)) ?_ ?_ ?_ ?_
 ·intro i v w1 w2 h hb
  unfold spec2 at *
  cases hsp:specs[i]? with
  | none=>trivial
  | some s=>simp only [hsp]at h;exact holds2_up h hb
 ·intro i v w1 hi h
  obtain⟨o,ho⟩:=hf.get i (by simpa using hi)
  unfold spec2 at h
  simp only [ho,holds2]at h
  obtain⟨b,_,h1,_,h2⟩:=h
  exact⟨b,by simpa using h1,lt_of_block h2⟩
 ·intro i o hi ho a' w' hC hk hD
  have hs1:specs[i]? = some specs[i]:=by simp [hi]
  have ho':(ops.toList.take specs.length)[i]? = some o:=by rw [List.getElem?_take,if_pos hi];simpa using ho
  have hnb:∃nb cp:Nat→Nat,∀j∈depsOf o,∀d s,(ops[j]?).bind (·.dst)=some d→specs[j]? = some s→a'.tmps[d]? = some (val2 s (nb j) (cp j))∧∀ob mk,s=.inr (ob,mk)→w.heap.size≤nb j∧w'.heap[nb j]? = some (ob (cp j)):=by
   have:∀j,∃x:Nat×Nat,j∈depsOf o→∀d s,(ops[j]?).bind (·.dst)=some d→specs[j]? = some s→a'.tmps[d]? = some (val2 s x.1 x.2)∧∀ob mk,s=.inr (ob,mk)→w.heap.size≤x.1∧w'.heap[x.1]? = some (ob x.2):=fun j=>by
    by_cases hj:j∈depsOf o
    ·cases hoj:ops[j]? with
     | none=>exact⟨(0,0),fun _ d s h=>by cases h⟩
     | some oj=>
      cases hdj:oj.dst with
      | none=>exact⟨(0,0),fun _ d s h=>by simp [hdj]at h⟩
      | some d=>
       obtain⟨v,hv1,hv2⟩:=hD j oj d hj hoj hdj
       cases hs2:specs[j]? with
       | none=>exact⟨(0,0),fun _ d s _ h=>by cases h⟩
       | some s=>
        unfold spec2 at hv2
        simp only [hs2]at hv2
        match s,hv2 with
        | .inl u,hv2=>
         refine⟨(0,0),fun _ d' s' e1 e2=>?_⟩
         simp only [Option.bind_some,hdj]at e1
         cases e1;cases e2
         exact⟨by rw [hv1];exact hv2,fun ob mk e=>by cases e⟩
        | .inr (ob,mk),⟨x,y,hx1,hx2,hx3⟩=>
         refine⟨(x,y),fun _ d' s' e1 e2=>?_⟩
         simp only [Option.bind_some,hdj]at e1
         cases e1;cases e2
         exact⟨by rw [hv1];exact hx1,fun ob' mk' e=>by cases e;exact⟨hx2,hx3⟩⟩
    ·exact⟨(0,0),fun h=>(hj h).elim⟩
   exact⟨fun j=>(this j).choose.1,fun j=>(this j).choose.2,fun j hj=>(this j).choose_spec hj⟩
  obtain⟨nb,cp,hnb⟩:=hnb
  have hcs:=(allC_iff.1 (c nb cp)).1
  have hlk:∀t v,look t (slots2 ops.toList specs nb cp (depsOf o)++dropS (dstsOf (ops.toList.take specs.length)) l)=some v→a'.tmps[t]? = some v:=fun t v h=>by
   rcases List.mem_append.1 (look_mem _ t v h)with h | h
   ·obtain⟨j,hj,s',h1',h2',rfl⟩:=slots2_mem _ t v h
    exact(hnb j hj t s' (by simpa using h1') h2').1
   ·obtain⟨h3,h4⟩:=dropS_mem _ l _ h
    have:=hk t (fun j o' hj ho2 e=>memB_false _ h4 (dstsOf_mem _ o' t (by
     rw [List.mem_iff_getElem?]
     exact⟨j,by rw [List.getElem?_take,if_pos hj];simpa using ho2⟩) e))
    rw [this]
    exact F.has _ h3
  have A:Agr a'.eval (slots2 ops.toList specs nb cp (depsOf o)++dropS (dstsOf (ops.toList.take specs.length)) l):=fun x v h=>by
   cases x with
   | tmp t=>exact eval_tmp (hlk t v h)
   | const u=>exact Option.some.inj h
   | func f=>exact Option.some.inj h
   | global g=>exact Option.some.inj h
  have H:Has w' (blks2 specs nb cp (depsOf o)++L):=fun k x hx=>by
   rcases List.mem_append.1 (List.mem_of_getElem? hx)with h | h
   ·obtain⟨j,hj,ob,mk,hs2,e1,e2⟩:=blks2_mem _ x h
    rw [e1,e2]
    obtain⟨oj,dj,q1,q2,_⟩:=(good_of hG).own j (lt hs2)
    exact((hnb j hj dj _ (by simp [show ops[j]? = some oj by simpa using q1,q2]) hs2).2 ob mk rfl).2
   ·obtain⟨k',hk'⟩:=List.mem_iff_getElem?.1 h
    exact keep hC (M.has k' x hk')
  have hfr:fs.contains i=true→∃ob,specs[i]=.inr (fun _=>ob,fun b _=>.pointer (some ⟨b,0,none⟩)):=fun h=>by
   obtain⟨ob,e⟩:=hf.get i (by simpa using h)
   rw [hs1]at e
   exact⟨ob,Option.some.inj e⟩
  unfold spec2
  simp only [hs1]
  generalize hsi:specs[i]=s at *
  obtain⟨hh,hhs,hok⟩:=dres2_get _ _ _ _ _ (h1 nb cp) hcs i o s ho' hs1
  have hno:fs.contains i=true→hh.1<10:=fun h=>by
   have:=List.all_eq_true.1 hq i (by simpa using h)
   simp [hhs,Nat.blt]at this
   omega
  rcases hok with⟨hw,hk2⟩ | ⟨hw,rfl⟩
  ·refine .inl ⟨wanted_iff hw hlk,?_⟩
   rcases hk2 with⟨ob,mk,rfl,hrun⟩ | ⟨h,r,cs',hr,hc',hu,hk3⟩
   ·obtain⟨c1,w1,hb,hsz,hrun⟩:=hrun a'.eval w' A H
    unfold Oper.wp
    rw [hrun]
    have hb':=hb.alloc (Nat.le_of_eq hsz.symm) (ob c1)
    refine⟨_,rfl,hb',⟨w'.heap.size,c1,rfl,hC.size,by rw [←hsz];exact heap_new w1 _⟩,fun h=>?_⟩
    obtain⟨ob',e⟩:=hfr h
    simp only [Sum.inr.injEq,Prod.mk.injEq]at e
    rw [e.2]
   ·refine aev_ok A H hr hc' _ _ fun b w'' p=>?_
    have hbel:Below w'.heap.size w' w'':=⟨p.os,p.tape,p.output,p.size,fun k hk=>p.block k hk (fun u hu'=>by rw [hu]at hu';cases hu')⟩
    rcases hk3 with⟨hn,rfl⟩ | ⟨ob,hn,rfl⟩ | ⟨ob,mk,ob',mk',j,hway,hn,rfl,hsp,hj,hdj,he1,he2⟩
    ·obtain rfl:=p.zero hn
     refine⟨r.val 0,rfl,hbel,rfl,fun h=>?_⟩
     obtain⟨ob,e⟩:=hfr h
     cases e
    ·obtain⟨hb,hob⟩:=p.fresh ob hn
     refine⟨r.val b,rfl,hbel,⟨b,0,rfl,by rw [hb];exact hC.size,hob⟩,fun h=>?_⟩
     obtain⟨ob',e⟩:=hfr h
     simp only [Sum.inr.injEq,Prod.mk.injEq]at e
     have:=congrFun (congrFun e.2 b) 0
     rw [show r.val b=_ from this,hb]
    ·obtain rfl:=p.zero hn
     obtain⟨d,hd'⟩:=Option.isSome_iff_exists.1 hdj
     have hx:=(hnb j hj d _ (by simpa using hd') hsp).2 ob' mk' rfl
     refine⟨r.val 0,rfl,hbel,⟨nb j,cp j,by rw [he1],hx.1,?_⟩,fun h=>?_⟩
     ·rw [←he2];exact(hbel.block _ (lt_of_block hx.2)).trans hx.2
     ·have:=hno h;omega
  ·refine .inr ⟨wanted_iff hw hlk,rfl,?_⟩
   cases hq:fs.contains i with
   | false=>rfl
   | true=>obtain⟨ob,e⟩:=hfr hq;cases e
 ·intro vs w' hlen hC hvs hfr
  have hnb:∃nb cp:Nat→Nat,∀(i:Nat) s,specs[i]? = some s→vs[i]? = some (val2 s (nb i) (cp i))∧∀ob mk,s=.inr (ob,mk)→w.heap.size≤nb i∧w'.heap[nb i]? = some (ob (cp i)):=by
   have:∀i:Nat,∃x:Nat×Nat,∀s,specs[i]? = some s→vs[i]? = some (val2 s x.1 x.2)∧∀ob mk,s=.inr (ob,mk)→w.heap.size≤x.1∧w'.heap[x.1]? = some (ob x.2):=fun i=>by
    cases hs2:specs[i]? with
    | none=>exact⟨(0,0),fun s h=>by cases h⟩
    | some s=>
     have hil:=lt hs2
     obtain⟨v,hv⟩:∃v,vs[i]? = some v:=⟨_,List.getElem?_eq_getElem (by rw [hlen];exact hil)⟩
     have hR:=hvs i v hv
     unfold spec2 at hR
     simp only [hs2]at hR
     match s,hR with
     | .inl u,hR=>exact⟨(0,0),fun s' e=>by cases e;exact⟨hv.trans hR,fun ob mk e=>by cases e⟩⟩
     | .inr (ob,mk),⟨x,y,hx1,hx2,hx3⟩=>exact⟨(x,y),fun s' e=>by cases e;exact⟨hv.trans hx1,fun ob' mk' e=>by cases e;exact⟨hx2,hx3⟩⟩⟩
   exact⟨fun j=>(this j).choose.1,fun j=>(this j).choose.2,fun j=>(this j).choose_spec⟩
  obtain⟨nb,cp,hnb⟩:=hnb
  have hvals:vs=vals2 specs nb cp 0:=by
   refine List.ext_getElem? fun i=>?_
   rcases Nat.lt_or_ge i specs.length with h | h
   ·have hs2:specs[i]? = some specs[i]:=by simp [h]
    rw [(hnb i _ hs2).1,vals2_get specs nb cp 0 i _ hs2,Nat.zero_add]
   ·rw [List.getElem?_eq_none (by omega),List.getElem?_eq_none (by rw [vals2_len];exact h)]
  have hfp:∀i∈fs,vs[i]? = some (.pointer (some ⟨nb i,0,none⟩))∧i<specs.length:=fun i hi=>by
   obtain⟨o,ho⟩:=hf.get i hi
   exact⟨(hnb i _ ho).1,lt ho⟩
  have M':MemS S w0 w' (blks2 specs nb cp fs++L) R:=MemS.addFs2 (M.keep hC) M.size (fun i x hx=>lt_of_block (M.has i x hx)) (fun q hq g hg=>(ownsRow_lt (M.rows q hq) hg).2) (fun i ob mk h=>(hnb i _ h).2 ob mk rfl) fs hf (fun i j hi hj hij e=>by
   obtain⟨e1,l1⟩:=hfp i hi
   obtain⟨e2,l2⟩:=hfp j hj
   exact hfr i j hij (by simpa using hi) (by simpa using hj) l1 l2 (by rw [e1,e2,e]))
  have hd1:dstsB n (ops.toList.take specs.length)=true:=by
   unfold dstsB at hd ⊢
   rw [List.all_eq_true]at hd ⊢
   exact fun o ho=>hd o (List.mem_of_mem_take ho)
  have hd2:dstsB n (ops.toList.drop specs.length)=true:=by
   unfold dstsB at hd ⊢
   rw [List.all_eq_true]at hd ⊢
   exact fun o ho=>hd o (List.mem_of_mem_drop ho)
  rw [hvals]
  have F':=Fr.putAll (ops.toList.take specs.length) (vals2 specs nb cp 0) a l F hd1
  have:=seq_ok (P:=P) (ops:=ops) (Q:=Q) (w0:=w0) (S:=S) (R:=R) (n:=n) (rest:=[]) (out:=out) (K:=fun l' L'=>∀a' w',Fr n a' l'→MemS S w0 w' L' R→Q .normal a' w') (fun l' L' a' w' hK F M=>hK a' w' F M)
   (ops.toList.drop specs.length) hs' _ _ _ w' hd2 (by rw [h2];exact g nb cp) F' M'
  rwa [List.append_nil]at this
theorem neqA_ok {o:Oper}{x y:Operand}{t t' e:TypeId}{m:Nat}{k:IntKind}{A B:List Nat}{b:Bool}(ho:o.op=.binOp .neq t x y t')(hu:P.underlying t=some (.array m e))(he:P.underlying e=some (.int k))(hi:(P.info? e).isSome=true)(hc:P.cellsOf e=1)(hq:P.eqGuardType P.depth t=false)
  (hx:evO l x=some (.agg (cn k A))) (hy:evO l y=some (.agg (cn k B))) (hA:A.length=m) (hB:B.length=m) (hb:decide (A≠B)=b):RunV P l L o (.bool b):=fun ρ w Ag _=>by
 have h1:=Ag x _ hx
 have h2:=Ag y _ hy
 obtain⟨i,hi⟩:=Option.isSome_iff_exists.1 hi
 rw [cn_ints]at h1 h2
 have e1:=run_equalIn_ints (P:=P) w 9998 m k hu he hi hc (A.map fun(n:Nat)=>(n:Int)) (B.map fun(n:Nat)=>(n:Int)) (by simpa using hA) (by simpa using hB)
 have e2:(eqGuard .neq t x y (.agg (intCells k (A.map fun(n:Nat)=>(n:Int)))) (.agg (intCells k (B.map fun(n:Nat)=>(n:Int))))).run P w=.ok () w:=by simp [eqGuard,hq]
 have e3:((A.map fun(n:Nat)=>(n:Int)) == (B.map fun(n:Nat)=>(n:Int)))=decide (A=B):=by
  rw [Bool.eq_iff_iff,beq_iff_eq,decide_eq_true_eq]
  refine⟨fun h=>?_,fun h=>by rw [h]⟩
  refine List.ext_getElem (by omega) fun i h1 h2=>?_
  have:=congrArg (fun l=>l[i]?) h
  simp [h1,h2]at this
  omega
 have e4:(!decide (A=B))=b:=by rw [←hb];simp
 rw [e3]at e1
 simp only [execOp,ho,h1,h2,Sem.run_bind,e2,Result.andThen_ok,run_neq_struct,e1,Sem.run_pure,e4]
theorem rep_len (X:List Nat)(c:Nat):(X++List.replicate c 0).length=X.length+c:=by simp
theorem rep_lt {X:List Nat}(h:∀i,X.getD i 0<256)(c i:Nat):(X++List.replicate c 0).getD i 0<256:=by
 rw [List.getD_eq_getElem?_getD]
 rcases Nat.lt_or_ge i X.length with h1 | h1
 ·rw [List.getElem?_append_left h1,←List.getD_eq_getElem?_getD];exact h i
 ·rw [List.getElem?_append_right h1,←List.getD_eq_getElem?_getD];exact rep0_lt (by decide) _
theorem part_rep (X:List Nat)(c:Nat):PartAt (cn .u8 (X++List.replicate c 0)) 0 (cn .u8 X):=fun j v hv=>by
 have hj:j<X.length:=by
  rcases Nat.lt_or_ge j X.length with h | h
  ·exact h
  ·rw [Array.getElem?_eq_none (by rw [cZ];exact h)]at hv;cases hv
 rw [Nat.zero_add,cn_get _ _ _ (by rw [rep_len];omega),←hv,cn_get _ _ _ hj]
 simp [List.getD_eq_getElem?_getD,List.getElem?_append_left hj]
end
end Go.Proofs.YtdokjecjiifciaaGreatDoor
