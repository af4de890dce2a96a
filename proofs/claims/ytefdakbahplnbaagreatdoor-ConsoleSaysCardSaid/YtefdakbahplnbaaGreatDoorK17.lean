/- A line's command, as it is read: no walk in it. -/
import Derived.Test.YtefdakbahplnbaaGreatDoorK11
import Derived.Test.YtefdakbahplnbaaGreatDoorK15
import Derived.Carry
import Derived.WideMake
open Go.Proofs.Tryz
open Go renaming Value->ag,World->ac,heap_alloc_new->a7,run_underlying->sJ,wpList_append_lies->C3
open Go.Instr renaming findNow->acG,lookup->acJ
open Go.IntKind renaming i64->R
open Go.Lib renaming size_eq->dy
open Go.MapKept renaming bytes_beq->aph,run_checkKey->apg,run_findKey->acI,run_getObj_map->acH
open Go.Proofs.Tryz renaming prog->ae
open Go.Value renaming int->I,oneCell'->fG,slice->ak,string->ad
open Go.World renaming news_of_block->lS,size_alloc->bA
open List renaming length_append->cl,length_singleton->gH,map_append->mU
open Nat renaming le_refl->aA,zero_le->oz
open Option renaming none->ab,some->U
namespace Go.Proofs.YtefdakbahplnbaaGreatDoor
def DR:W8:=[109,97,112]
def Em:W8:=[117,110,109,97,112]
def kf:W8:=[112,117,116]
def C6:W8:=[101,110,116,101,114]
def DE:W8:=[106,117,100,103,101]
def ES:W8:=[115,116,101,112]
def Fo:W8:=[112,104,97,115,101]
def E3:W8:=[115,101,97,108,101,100]
def LI:W8:=[108,111,103]
def lP(w:W8):Option Nat:=if w=DR then U 2 else if w=Em then U 1 else if w=kf then U 1 else if w=C6 then U 6 else if w=DE then U 5 else if w=ES then U 2 else if w=Fo then U 1 else if w=E3 then U 0 else if w=LI then U 0 else ab
def oL(c:UInt8):Option Nat:=if 48<=c.toNat/\c.toNat<=57 then U (c.toNat-48)else if 97<=c.toNat/\c.toNat<=102 then U (c.toNat-87)else ab
def iG:W8->Option W8|[]=>U []|[_]=>ab|a::b::r=>match oL a,oL b,iG r with|U x,U al,U l=>U (UInt8.ofNat (16*x+al)::l)|_,_,_=>ab
def tu(n:Nat):UInt8:=UInt8.ofNat (if n<10 then 48+n else 87+n)
def iH(l:W8):W8:=l.flatMap fun c=>[tu (c.toNat/16),tu (c.toNat%16)]
def jx:List W8->Option (List Nat)|[]=>U []|w::r=>if cz w=true then(jx r).map (bW w::·)else ab
def UK:List W8->Option W8|[x]=>iG x|_=>ab
def lY(c:W8)(r:List W8):Option W8:=if c=kf then UK r else if r=[]then U []else ab
def ta(c:W8)(r:List W8)(k:Nat):Option (W8×List Nat×W8):=match jx (r.take k)with|ab=>ab|U Q=>(lY c (r.drop k)).map fun b=>(c,Q,b)
def nQ(c:W8)(r:List W8):Option (W8×List Nat×W8):=match lP c with|ab=>ab|U k=>if r.length<k then ab else ta c r k
def iN(bp:W8):Option (W8×List Nat×W8):=if 300<bp.length then ab else nQ ((ck 32 bp).headD []) (ck 32 bp).tail
def bD(n:Nat):Nat:=min n 2147483648
theorem Tc(l:W8):ck 32 l=(ck 32 l).headD []::(ck 32 l).tail:=by
 have:=BS 32 l;cases h:ck 32 l with
  |nil=>exact absurd h this
  |cons a r=>rfl
theorem KF:∀{l:List W8}{Q:List Nat},jx l=U Q->Q.length=l.length/\(∀i,Q.getD i 0<18446744073709551616)
 |[],Q,h=>by obtain rfl:=Option.some.inj h;exact⟨J,fun i=>by simp⟩
 |w::r,Q,h=>by
  unfold jx at h;split at h
  .obtain⟨m,hm,rfl⟩:=Option.map_eq_some_iff.1 h;obtain⟨q,h2⟩:=KF hm;refine⟨by simp[q],fun i=>?_⟩;cases i with
    |zero=>exact wO w
    |succ i=>exact h2 i
  .cases h
theorem Js{w:W8}{k:Nat}(h:lP w=U k):(w=DR/\k=2)\/(w=Em/\k=1)\/(w=kf/\k=1)\/(w=C6/\k=6)\/(w=DE/\k=5)\/(w=ES/\k=2)\/(w=Fo/\k=1)\/(w=E3/\k=0)\/(w=LI/\k=0):=by
 unfold lP at h;repeat' split at h
 all_goals first|(cases h;simp_all)|cases h
theorem alH{w:W8}(h:lP w=ab):w≠DR/\w≠Em/\w≠kf/\w≠C6/\w≠DE/\w≠ES/\w≠Fo/\w≠E3/\w≠LI:=by
 unfold lP at h;repeat' split at h
 all_goals first|exact⟨by assumption,by assumption,by assumption,by assumption,by assumption,by assumption,by assumption,by assumption,by assumption⟩|cases h
theorem Pj:∀{l b:W8},iG l=U b->b.length<=l.length
 |[],b,h=>by cases h;exact aA _
 |[_],b,h=>by cases h
 |x::al::r,b,h=>by
  unfold iG at h;split at h;.rename_i L;cases h;have:=Pj L;simp only[List.length_cons];omega
  .cases h
theorem ac4{c:W8}{r:List W8}{bu:Nat}(L:∀x∈r,x.length<=bu){b:W8}(h:lY c r=U b):b.length<=bu:=by
 unfold lY at h;split at h;.match r,L,h with|[x],L,h=>exact Nat.le_trans (Pj h) (L x (List.mem_cons_self ..))
 .split at h;.cases h;exact oz _
  .cases h
end Go.Proofs.YtefdakbahplnbaaGreatDoor
namespace Go.Proofs.YtefdakbahplnbaaGreatDoor
open Go.RowKit Go.Sort
structure hq(oa:Option Addr)(ws:List W8)(W:ac):Prop where
 ez:0<ws.length->∃b off,oa=U ⟨b,off,ab⟩/\b<W.heap.size/\∀i x,ws[i]?=U x->W.cell? ⟨b,off+i,ab⟩=U (ad (bs x))
theorem hq.au{oa:Option Addr}{ws:List W8}{W V:ac}(h:hq oa ws W)(hb:Below W.heap.size W V):hq oa ws V:=⟨fun h0=>by obtain⟨b,off,q,h2,h3⟩:=h.ez h0;exact⟨b,off,q,Nat.lt_of_lt_of_le h2 hb.size,fun i x hi=>ao hb (h3 i x hi)⟩⟩
def k_(ws:List W8):List ag:=ws.map fun x=>ad (bs x)
theorem I8:∃i,ae.info? 9=U i/\i.zero=U (ad ⟨#[]⟩)/\i.size=1/\i.bytes=16:=by
 have hz:(ae.info? 9).map (·.zero)=U (U (ad ⟨#[]⟩)):=by kernel_rfl
 have F:(ae.info? 9).map (·.size)=U 1:=by kernel_rfl
 have hb:(ae.info? 9).map (·.bytes)=U 16:=by kernel_rfl
 cases N:ae.info? 9 with
  |none=>rw[N]at F;simp at F
  |some i=>rw[N]at hz F hb;simp at hz F hb;exact⟨i,J,hz,F,hb⟩
theorem Vo{W:ac}{base:Nat}{v:ag}{ws:List W8}(h:W.ownsRow base 9 1 v ws.length (k_ ws)):∃oa cap,v=ak oa ws.length cap/\ws.length<=cap/\cap<=maxLen/\hq oa ws W:=by
 have h':=h;rcases h.2 with⟨rfl,u⟩|⟨g,cap,co,rfl,hb,hg,q,h2,h3,h4⟩;.exact⟨ab,0,by rw[u],by omega,by unfold maxLen;omega,⟨fun h0=>by omega⟩⟩
 .refine⟨_,cap,J,q,h2,⟨fun h0=>⟨g,0,J,(h'.lt g J).2,fun i x hx=>?_⟩⟩⟩;have h5:=h'.cells (g:=g) J i (ad (bs x)) (by unfold k_;rw[List.getElem?_map,hx];rfl);rwa[show(⟨g,0,ab⟩:Addr).add i=⟨g,0+i,ab⟩by unfold Addr.add;split<;>simp_all]at h5
def rT(c:UInt8)(l:W8)(f i:Nat)(ws:List W8):Prop:=(i<=l.length/\f<=i/\ck c l=ws++ck c (l.drop f)/\c∉et l f i)\/(i=l.length+1/\ws=ck c l)
theorem rT.start(c:UInt8)(l:W8):rT c l 0 0 []:= .inl ⟨oz _,aA _,by simp,by rw[JS];simp⟩
theorem XM(l:W8)(f i:Nat)(M:f<=i)(_hi:i<=l.length):l.drop f=et l f i++l.drop i:=by unfold et;conv=>lhs;rw[<-List.take_append_drop (i-f) (l.drop f),List.drop_drop,show f+(i-f)=i by omega]
theorem rT.cut{c:UInt8}{s:ByteArray}{f i:Nat}{ws:List W8}(h:rT c s.data.toList f i ws)(hi:i<s.size)(H:an s i=c.toNat):rT c s.data.toList (i+1) (i+1) (ws++[et s.data.toList f i]):=by
 have hl:s.data.toList.length=s.size:=(dy s).symm;rcases h with⟨q,h2,h3,h4⟩|⟨q,_⟩;.refine .inl ⟨by omega,aA _,?_,by rw[JS];simp⟩;rw[h3,XM _ f i h2 q,AI s i hi,H,show UInt8.ofNat c.toNat=c by simp,F1 c _ _ h4,List.append_assoc];rfl
 .omega
theorem rT.step{c:UInt8}{s:ByteArray}{f i:Nat}{ws:List W8}(h:rT c s.data.toList f i ws)(hi:i<s.size)(H:an s i≠c.toNat):rT c s.data.toList f (i+1) ws:=by
 have hl:s.data.toList.length=s.size:=(dy s).symm;rcases h with⟨q,h2,h3,h4⟩|⟨q,_⟩
 .refine .inl ⟨by omega,by omega,h3,?_⟩;rw[Ya s f i h2 hi,List.mem_append,List.mem_singleton];rintro(h|h);.exact h4 h
  .refine H ?_;rw[h,UInt8.toNat_ofNat',Nat.mod_eq_of_lt (ea s i)]
 .omega
theorem rT.adN{c:UInt8}{s:ByteArray}{f:Nat}{ws:List W8}(h:rT c s.data.toList f s.size ws):rT c s.data.toList (s.size+1) (s.size+1) (ws++[et s.data.toList f s.size]):=by
 have hl:s.data.toList.length=s.size:=(dy s).symm;rcases h with⟨q,h2,h3,h4⟩|⟨q,_⟩;.refine .inr ⟨by omega,?_⟩;rw[h3,XM _ f s.size h2 q,Se,List.append_nil,GI c _ h4]
 .omega
set_option maxHeartbeats 2000000 in set_option maxRecDepth 100000 in theorem JY(s:ByteArray)(F:s.size<=9000)(c:UInt8)(wy:Nat)(kI:wy=c.toNat)(w:ac):Calls ae 14 #[ad s,I .u8 wy] w fun e w'=>(∃oa cap,e= .returned (ak oa (ck c s.data.toList).length cap)/\(ck c s.data.toList).length<=cap/\cap<=maxLen/\hq oa (ck c s.data.toList) w')/\Below w.heap.size w w':=by
 have C':=aa kI;have Wp:wy<256:=by rw[kI];exact c.toNat_lt
 clear kI;obtain⟨eq,d8,dh,dD,dz⟩:=I8;go_enter func14,ntmps14;go_wp2;go_loopw[5,6,7](fun aC d5 aL w'=>∃(f i:Nat)(ws:List W8)(y:ag),aC=y/\f<=i/\i<=s.size+1/\d5=I R f/\aL=I R i/\Hid (rT c s.data.toList f i ws)/\ws.length<=i/\Hid (w'.ownsRow w.heap.size 9 1 y ws.length (k_ ws))/\Hid (Below w.heap.size w w'))(fun _ _ aL _=>s.size+1-(intOf aL).toNat);case atStart=>exact⟨0,0,[],_,J,by omega,by omega,J,J,aa (rT.start _ _),by simp,aa (World.ownsRow_nil _ _ _ _),aa (Below.refl _ _)⟩
 case round=>
  obtain⟨f,i,ws,aC,BQ,hfi,hi,rfl,rfl,G,tp,HO,S⟩:=hrel;replace BQ:=BQ.symm;subst BQ;have it:=S.out.size;have i0:(0:Int)<=f:=by omega
  have i1:(f:Int)<=i:=by omega
  by_cases eR:i<=s.size
  .have mw:(s.extract f i)=bs (et s.data.toList f i):=by apply ByteArray.ext;apply Array.toList_inj.1;rw[R0];unfold bs;simp
   have i2:(i:Int)<=s.size:=by omega
   by_cases am:i<s.size
   .have Sa:=cd s i am;by_cases G_:an s i=wy
    .have eI:=aa (G.out.cut am (G_.trans C'.out));rw[G_]at Sa;clear G_;go_wp2_with(refine C3 _ (by rfl) _ _ _ (by rfl) w.heap.size 9 eq _ 1 16 underlying22 d8 dh dD dz J (by omega) aC ws.length (k_ ws) (by rfl) (HO.out.alloc _) ⟨wr.heap.size,0,ab⟩ 1 1 [ad (bs (et s.data.toList f i))] (by rfl) (by rfl) (lS (cs:=#[ad (bs (et s.data.toList f i))]) (t:=9) (fr:=(0,0)) (a7 wr _)) (by simp[fG]) (by omega) (by simp only[maxLen];omega) (by omega) (by rw[bA];omega) (wr.heap.size+1) (by simp) ?_;intro kU Gx yj Ac zm I9 Ip;have Hq:=aa ((S.out.trans ((ai wr _).mono it)).grown zm (by rw[bA];omega) (fun k z=>(HO.out.lt k z).1));have uM:=aa Ac;clear Ac zm I9 Ip);replace uM:=aa (show yj.ownsRow w.heap.size 9 1 (ak (U ⟨kU,0,ab⟩) (ws.length+1) Gx) (ws++[et s.data.toList f i]).length (k_ (ws++[et s.data.toList f i]))by have:=uM.out;unfold k_ at this⊢;rw[cl,gH,mU];exact this);go_wp2;go_round;case rel=>exact⟨i+1,i+1,_,_,J,by omega,by omega,by go_num,by go_num,eI,by rw[cl,gH];omega,uM,Hq⟩
     case measure=>simp[intOf];omega
    .have eI:=aa (G.out.step am (fun h=>G_ (h.trans C'.out.symm)));have bb:((an s i:Int)==(wy:Int))=false:=by simp;omega
     have dB:(an s i==wy)=false:=by simpa using G_
     go_wp2;go_round;case rel=>exact⟨f,i+1,ws,_,J,by omega,by omega,J,by go_num,eI,by omega,HO,S⟩
     case measure=>simp[intOf];omega
   .obtain rfl:i=s.size:=by omega
    have eI:=aa G.out.adN;go_wp2_with(refine C3 _ (by rfl) _ _ _ (by rfl) w.heap.size 9 eq _ 1 16 underlying22 d8 dh dD dz J (by omega) aC ws.length (k_ ws) (by rfl) (HO.out.alloc _) ⟨wr.heap.size,0,ab⟩ 1 1 [ad (bs (et s.data.toList f s.size))] (by rfl) (by rfl) (lS (cs:=#[ad (bs (et s.data.toList f s.size))]) (t:=9) (fr:=(0,0)) (a7 wr _)) (by simp[fG]) (by omega) (by simp only[maxLen];omega) (by omega) (by rw[bA];omega) (wr.heap.size+1) (by simp) ?_;intro kU Gx yj Ac zm I9 Ip;have Hq:=aa ((S.out.trans ((ai wr _).mono it)).grown zm (by rw[bA];omega) (fun k z=>(HO.out.lt k z).1));have uM:=aa Ac;clear Ac zm I9 Ip);replace uM:=aa (show yj.ownsRow w.heap.size 9 1 (ak (U ⟨kU,0,ab⟩) (ws.length+1) Gx) (ws++[et s.data.toList f s.size]).length (k_ (ws++[et s.data.toList f s.size]))by have:=uM.out;unfold k_ at this⊢;rw[cl,gH,mU];exact this);go_wp2;go_round;case rel=>exact⟨s.size+1,s.size+1,_,_,J,by omega,by omega,by go_num,by go_num,eI,by rw[cl,gH];omega,uM,Hq⟩
    case measure=>simp[intOf]
  .obtain rfl:i=s.size+1:=by omega
   have e8:ws=ck c s.data.toList:=by
    rcases G.out with⟨q,_⟩|⟨_,h⟩;.rw[<-dy]at q;omega
    .exact h
   subst e8;obtain⟨oa,cap,hL,q1,q2,q3⟩:=Vo HO.out;subst hL;go_wp2;go_ret;exact⟨⟨oa,cap,J,q1,q2,q3⟩,S.out⟩
theorem AD{a_:Array Oper}{rest:List Oper}{o:Oper}{a:Act}{w:ac}{aE:Exit->Act->ac->Prop}(de:o.guard=ab)(m k x:Operand)(ho:o.op= .insert 81 m k x)(hd:o.dst=ab)(pB:ByteArray)(v:ag)(es:Array MapEntry)(I1 r:Nat)(hm:a.eval m= .map (U r))(z:a.eval k=ad pB)(hx:a.eval x=v)(hb:w.heap[r]?=U (.map es I1))(M:acG .string (ad pB) es.toList 0=U ab)(h:∀w',w'.heap[r]?=U (.map (es.push ⟨ad pB,v,I1⟩) (I1+1))->Below r w w'->w'.heap.size=w.heap.size->wpList ae a_ aE rest a w'):wpList ae a_ aE (o::rest) a w:=by
 have L:(Instr.mapUpdate 81 (.map (U r)) (ad pB) v).run ae w= .ok () {w with heap:=w.heap.setIfInBounds r (.map (es.push ⟨ad pB,v,I1⟩) (I1+1))}:=by have H:(Instr.checkKey false 10000 9 (ad pB)).run ae w= .ok () w:=apg (k:=ad pB) underlying9 (by simp[MapKept.IsKey]) false 9999;simp[Instr.mapUpdate,sJ underlying81,acH hb,H,acI underlying9 M,MapKept.run_setObj_map _ hb,Result.andThen]
 have am:r<w.heap.size:=(Array.getElem?_eq_some_iff.1 hb).1;refine wpList_plain de fun _ A=>?_;unfold Oper.wp execOp;simp only[ho,hm,z,hx,Sem.run_bind,L,Result.andThen_ok];refine A _ _ ?_;rw[hd];refine h _ ?_ ⟨J,J,J,by simp,fun j hj=>?_⟩ (by simp);.simp[am]
 .simp only[Array.getElem?_setIfInBounds];rw[if_neg (by omega)]
theorem anM(a b:W8):(bs a==bs b)=decide (a=b):=by
 by_cases h:a=b;.rw[decide_eq_true h];exact(aph _ _).2 (by rw[h])
 .rw[decide_eq_false h,Bool.eq_false_iff];exact fun e=>h (by rw[<-fy a,(aph _ _).1 e,fy])
def Mt(pn:Int):Array MapEntry:=#[⟨ad (bs DR),I R 2,0⟩,⟨ad (bs Em),I R 1,1⟩,⟨ad (bs kf),I R pn,2⟩,⟨ad (bs C6),I R 6,3⟩,⟨ad (bs DE),I R 5,4⟩,⟨ad (bs ES),I R 2,5⟩,⟨ad (bs Fo),I R 1,6⟩,⟨ad (bs E3),I R 0,7⟩,⟨ad (bs LI),I R 0,8⟩]
def KW(pn:Int)(r:Nat)(w:ac):Prop:=w.heap[r]?=U (.map (Mt pn) 9)
def qF(pn:Int)(k:W8):Int:=match lP k with|U n=>if k=kf then pn else n|ab=>0
theorem ahj(pn:Int)(k:W8):acG .string (ad (bs k)) (Mt pn).toList 0=U (if(lP k).isSome=true then U ((if k=DR then 0 else if k=Em then 1 else if k=kf then 2 else if k=C6 then 3 else if k=DE then 4 else if k=ES then 5 else if k=Fo then 6 else if k=E3 then 7 else 8),I R (qF pn k))else ab):=by
 cases h:lP k with
  |none=>obtain⟨q,h2,h3,h4,h5,h6,h7,h8,h9⟩:=alH h;simp[Mt,acG,Instr.sameNow,anM,q,h2,h3,h4,h5,h6,h7,h8,h9]
  |some n=>rcases Js h with⟨rfl,rfl⟩|⟨rfl,rfl⟩|⟨rfl,rfl⟩|⟨rfl,rfl⟩|⟨rfl,rfl⟩|⟨rfl,rfl⟩|⟨rfl,rfl⟩|⟨rfl,rfl⟩|⟨rfl,rfl⟩<;>rfl
theorem YF{pn:Int}{r:Nat}{w:ac}(h:KW pn r w)(k:W8):(acJ 81 (.map (U r)) (ad (bs k)) true).run ae w= .ok (.tuple #[I R (qF pn k), .bool (lP k).isSome]) w:=by
 have H:(Instr.checkKey false 10000 9 (ad (bs k))).run ae w= .ok () w:=apg (k:=ad (bs k)) underlying9 (by simp[MapKept.IsKey]) false 9999;have he:(Mt pn).isEmpty=false:=J;have M:=ahj pn k;cases z:lP k with
  |none=>
   rw[z]at M;have h0:qF pn k=0:=by unfold qF;rw[z]
   simp at M;simp[acJ,sJ underlying81,acH h,he,H,acI underlying9 M,Result.andThen,h0]
  |some n=>rw[z]at M;simp at M;simp[acJ,sJ underlying81,acH h,he,H,acI underlying9 M,Result.andThen]
set_option maxRecDepth 20000 in theorem amP(w:ac):Calls ae 57 #[] w fun e w'=>e= .returned (.map (U w.heap.size))/\KW 1 w.heap.size w'/\Below w.heap.size w w':=by have D7:=@run_makeMap ae;have eM:(w.alloc (.map #[] 0)).heap[w.heap.size]?=U (.map #[] 0):=a7 _ _;have S:=aa (ai w (.map #[] 0));go_enter func57,ntmps57;go_wp2_with(refine AD (by rfl) _ _ _ (by rfl) (by rfl) _ _ _ _ _ (by rfl) (by rfl) (by rfl) eM (by rfl) ?_;clear eM;intro w1 eM g8 _;replace S:=aa (S.out.trans g8);clear g8);go_ret;exact⟨J,eM,S.out⟩
end Go.Proofs.YtefdakbahplnbaaGreatDoor
