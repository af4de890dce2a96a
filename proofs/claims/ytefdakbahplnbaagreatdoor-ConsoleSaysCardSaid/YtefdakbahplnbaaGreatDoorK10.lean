/- A byte of an address. -/
import Derived.Laws.Slices
import Derived.Test.YtefdakbahplnbaaGreatDoorK9
import Derived.LaidEql
import Derived.Lib.IfaceEq
import Derived.Stop.Asserts
import Derived.RowKitTokens
import Derived.Deep.MidRow
open Go.Proofs.Tryz
open Array renaming ext_getElem?->vB,getElem?_eq_none->ao9,getElem?_eq_some_iff->bM
open ByteArray renaming data_append->FK,ext->za,size->qi,size_append->ml
open Go renaming Calls->ap,Oper->bz,Value->ag,World->ac,below_regrown->cN,bodyPost_ret->ba,cell_of_row->aT,frozen_of_row->cy,heap_alloc2_new->y',heap_alloc2_old->AQ,heap_alloc_new->a7,heap_alloc_old->AU,results_cell_tmp->xf,run_loadVar_row->tT,run_typeAssert_lacksB->acC,setCell_eq_setRow->cJ,setRow_heap->aV,wpList_load_row->vC,wpList_store_row->bK
open Go.Ending renaming returned->aq
open Go.Extern.ReflectliteType renaming method->apd,typeOf->apc
open Go.Instr renaming typeAssert->TO
open Go.IntKind renaming i64->R,u32->aj
open Go.Lib renaming decDigits->aQ,decDigits_length->tN,extract_data->xd,indexByte->kg
open Go.Proofs.Tryz renaming prog->ae
open Go.RowKit.Below renaming refl->aS
open Go.Value renaming agg->aw,bool->aH,iface->b8,int->I,pointer->av,string->ad,tuple->az
open Go.World renaming drewN->FL,drewN_drewN->N2,drewN_zero->TS,setRow_alloc_new->pi
open List renaming drop_zero->FM,getD_eq_getElem?_getD->cI,getElem?_eq_none->C1,length_append->cl,length_cons->fh
open Nat renaming le_refl->aA,lt_of_lt_of_le->dk
open Option renaming none->ab,some->U
namespace Go.Proofs.YtefdakbahplnbaaGreatDoor
open Go.RowKit
def fS(ip i:Nat):Nat:=ip/2^(24-8*i)%256
theorem abF(ip i:Nat)(_hip:ip<4294967296)(hi:i<=3)(w:ac):ap ae 242 #[I aj ip,I R i] w fun e w'=>e=aq (I .u8 (fS ip i))/\w'=w:=by go_enter func242,ntmps242;go_wp2;go_ret;refine⟨?_,J⟩;refine ia ?_;unfold fS;simp
theorem O9(ip i:Nat):fS ip i<256:=Nat.mod_lt _ (by decide)
end Go.Proofs.YtefdakbahplnbaaGreatDoor
namespace Go.Proofs.YtefdakbahplnbaaGreatDoor
open Go.RowKit
def dc(Q:List Nat):Array ag:=#[I R (Q.getD 0 0),I R (Q.getD 1 0),I R (Q.getD 2 0),I R (Q.getD 3 0),I R (Q.getD 4 0),I R (Q.getD 5 0),I R (Q.getD 6 0)]
theorem TM(k:Nat)(z:k<6):(⟨#[46,46,46,47,58,45]⟩:ByteArray).extract k (k+1)=⟨#[eZ.getD k 0]⟩:=by match k,z with|0,_=>rfl|1,_=>rfl|2,_=>rfl|3,_=>rfl|4,_=>rfl|5,_=>rfl
theorem aoo(k:Nat)(z:k<6):eZ.drop k=eZ.getD k 0::eZ.drop (k+1):=by match k,z with|0,_=>rfl|1,_=>rfl|2,_=>rfl|3,_=>rfl|4,_=>rfl|5,_=>rfl
theorem WE(s:ByteArray)(k:Nat)(z:k<6)(i:Nat)(hi:kg s.data.toList (eZ.getD k 0)=i)(F:s.size<4294967296)(w:ac):ap ae 214 #[ad s,ad ((⟨#[46,46,46,47,58,45]⟩:ByteArray).extract k (k+1))] w fun e w'=>e=aq (az #[ad (s.extract 0 i),ad (s.extract (i+1) s.size),aH true])/\∃n,w'=w.drewN n:=by rw[TM k z];exact afa s _ i hi F w
theorem alE(s:ByteArray)(k:Nat)(z:k<6)(hi:kg s.data.toList (eZ.getD k 0)<0)(w:ac):ap ae 214 #[ad s,ad ((⟨#[46,46,46,47,58,45]⟩:ByteArray).extract k (k+1))] w fun e w'=>e=aq (az #[ad s,ad ⟨#[]⟩,aH false])/\∃n,w'=w.drewN n:=by rw[TM k z];exact ahD s _ hi w
theorem YO(s:ByteArray)(n:Nat)(h:jE s.data.toList=U n)(F:s.size<4294967296)(w:ac):ap ae 215 #[ad s] w fun e w'=>e=aq (az #[I R n,aH true])/\∃n,w'=w.drewN n:=(R5 s F w).mono fun e w'⟨he,hw⟩=>⟨by rw[he,h];rfl,hw⟩
theorem Wq(s:ByteArray)(h:jE s.data.toList=ab)(F:s.size<4294967296)(w:ac):ap ae 215 #[ad s] w fun e w'=>e=aq (az #[I R 0,aH false])/\∃n,w'=w.drewN n:=(R5 s F w).mono fun e w'⟨he,hw⟩=>⟨by rw[he,h];rfl,hw⟩
theorem afg(s:ByteArray)(F:s.size<4294967296)(w:ac):ap ae 215 #[ad s] w fun e w'=>(∃(a:Int)(b:Bool),e=aq (az #[I R a,aH b]))/\∃n,w'=w.drewN n:=(R5 s F w).mono fun e w'⟨he,hw⟩=>⟨by cases h:jE s.data.toList<;>rw[he,h]<;>exact⟨_,_,J⟩,hw⟩
def SW(w:ac)(Q:List Nat)(m:Nat):ac:=((w.alloc (.cells (dc []) 199)).alloc (.cells (dc Q) 199)).drewN m
theorem Hv(w:ac)(Q:List Nat)(m:Nat):(SW w Q m).heap[w.heap.size+1]?=U (.cells (dc Q) 199 (0,0)):=y' w _ _
theorem Jq(w:ac)(Q:List Nat)(m:Nat):(SW w Q m).heap[w.heap.size]?=U (.cells (dc []) 199 (0,0)):=AQ w _ _
theorem VC(w:ac)(Q:List Nat)(m n:Nat):(SW w Q m).drewN n=SW w Q (m+n):=by unfold SW;rw[N2]
theorem aiQ(w:ac):SW w [] 0=(w.alloc (.cells (dc []) 199)).alloc (.cells (dc []) 199):=TS _
theorem H0(w:ac)(Q:List Nat)(m:Nat):Below w.heap.size w (SW w Q m):=jq (((aS _ _).alloc (aA _) _).alloc (by simp) _) m
theorem EC(Q:List Nat)(k:Nat)(z:k<7):(dc Q)[k]?=U (I R (Q.getD k 0)):=by match k,z with|0,_=>rfl|1,_=>rfl|2,_=>rfl|3,_=>rfl|4,_=>rfl|5,_=>rfl|6,_=>rfl
theorem adi(Q:List Nat)(n j:Nat):(Q++[n]).getD j 0=if j=Q.length then n else Q.getD j 0:=by
 rw[cI,cI,List.getElem?_append];by_cases h:j<Q.length;.rw[if_pos h,if_neg (by omega)]
 .rw[if_neg h];by_cases h2:j=Q.length;.rw[if_pos h2,h2];simp
  .rw[if_neg h2,C1 (by simp;omega),C1 (by omega)]
theorem Vg(Q:List Nat)(n k:Nat)(hl:Q.length=k)(z:k<7):(dc Q).setIfInBounds k (I R n)=dc (Q++[n]):=by
 subst hl;apply vB;intro j;rw[Array.getElem?_setIfInBounds];by_cases hj:j<7
 .rw[EC _ j hj,EC _ j hj,adi];by_cases h:j=Q.length;.rw[if_pos h,if_pos h.symm,if_pos (by show Q.length<7;exact z)]
  .rw[if_neg h,if_neg (fun e=>h e.symm)]
 .rw[if_neg (by omega),ao9 (by show 7<=j;omega),ao9 (by show 7<=j;omega)]
theorem aaV(w:ac)(Q:List Nat)(m k:Nat)(z:k<7):(SW w Q m).cell? ⟨w.heap.size+1,k,ab⟩=U (I R (Q.getD k 0)):=by rw[aT _ _ k _ _ _ (Hv w Q m),EC Q k z]
theorem Mq(w:ac)(Q:List Nat)(m k:Nat):(SW w Q m).frozen? ⟨w.heap.size+1,k,ab⟩=false:=cy _ _ k _ _ (Hv w Q m)
theorem I2(w:ac)(Q:List Nat)(m n k:Nat)(hl:Q.length=k)(z:k<7):(SW w Q m).setCell ⟨w.heap.size+1,k,ab⟩ (I R n)=SW w (Q++[n]) m:=by rw[cJ _ _ k _ _ _ _ (Hv w Q m),Vg Q n k hl z];have h:=pi (w.alloc (.cells (dc []) 199)) (dc Q) (dc (Q++[n])) 199;rw[show(w.alloc (.cells (dc []) 199)).heap.size=w.heap.size+1 by simp]at h;exact congrArg (FL · m) h
theorem anF(w:ac)(Q D':List Nat)(m k:Nat)(v:ag)(h:(dc Q).setIfInBounds k v=dc D'):(SW w Q m).setCell ⟨w.heap.size+1,k,ab⟩ v=SW w D' m:=by rw[cJ _ _ k _ _ _ _ (Hv w Q m),h];have h:=pi (w.alloc (.cells (dc []) 199)) (dc Q) (dc D') 199;rw[show(w.alloc (.cells (dc []) 199)).heap.size=w.heap.size+1 by simp]at h;exact congrArg (FL · m) h
theorem CK:(ae.info? 199).map (·.size)=U 7:=by kernel_rfl
theorem JU(Q:List Nat):(dc Q).all (·.oneCell')=true:=by simp[dc,Value.oneCell']
theorem IH{a_:Array bz}{rest:List bz}{o:bz}{a:Act}{aE:Exit->Act->ac->Prop}(de:o.guard=ab)(x:Operand)(ho:o.op= .load 199 x)(w:ac)(Q:List Nat)(m:Nat)(hx:a.eval x=av (U ⟨w.heap.size+1,0,ab⟩))(h:wpList ae a_ aE rest (a.put o.dst (aw (dc Q))) (SW w Q m)):wpList ae a_ aE (o::rest) a (SW w Q m):=vC de 199 x ho _ hx 199 (dc Q) (0,0) _ (Hv w Q m) underlying199 J CK h
theorem F8{a_:Array bz}{rest:List bz}{o:bz}{a:Act}{aE:Exit->Act->ac->Prop}(de:o.guard=ab)(x al:Operand)(ho:o.op= .store 199 x al)(w:ac)(Q:List Nat)(m:Nat)(hx:a.eval x=av (U ⟨w.heap.size,0,ab⟩))(hy:a.eval al=aw (dc Q))(h:wpList ae a_ aE rest (a.put o.dst undef) ((SW w Q m).setRow w.heap.size (dc Q))):wpList ae a_ aE (o::rest) a (SW w Q m):=bK de 199 x al ho _ (dc Q) hx hy 199 (dc []) (Jq w Q m) CK J (JU Q) h
theorem NE{fn:Func}{p ay:Tmp}(h:fn.results=#[.cell p 199, .tmp ay])(tmps:Array ag)(w:ac)(Q:List Nat)(m:Nat)(v:ag)(hp:tmps.getD p undef=av (U ⟨w.heap.size,0,ab⟩))(hv:tmps.getD ay undef=v):(results fn tmps).run ae ((SW w Q m).setRow w.heap.size (dc Q))= .ok (az #[aw (dc Q),v]) ((SW w Q m).setRow w.heap.size (dc Q)):=by rw[xf h,hp,hv];have hl:=tT (P:=ae) ((SW w Q m).setRow w.heap.size (dc Q)) w.heap.size 199 199 (dc Q) (0,0) _ (aV _ _ _ _ _ _ (Jq w Q m)) underlying199 J CK;simp[asAddr,hl]
theorem Jw(w:ac)(Q:List Nat)(m:Nat):Below w.heap.size w ((SW w Q m).setRow w.heap.size (dc Q)):=below_setRow (H0 w Q m) (aA _) _
attribute[local go_sem]VC
theorem acO(s:ByteArray)(F:s.size<4294967296)(w:ac):ap ae 172 #[ad s] w fun e w'=>(∃Q ok,e=aq (az #[aw (dc Q),aH ok])/\(iS eZ s.data.toList=if ok=true then U Q else ab))/\Below w.heap.size w w':=by
 go_enter func172,ntmps172;go_wp2;go_loopw[13,0](fun i x w'=>∃(k m:Nat)(Q:List Nat)(co:ByteArray),k<=6/\i=I R k/\x=ad co/\co.size<4294967296/\Q.length=k/\w'=SW w Q m/\Hid (iS eZ s.data.toList=(iS (eZ.drop k) co.data.toList).map fun r=>Q++r))(fun i _ _=>6-(intOf i).toNat);case atStart=>exact⟨0,0,[],s,by omega,J,J,F,J,(aiQ w).symm,aa (by rw[FM];simp)⟩
 case round=>
  obtain⟨k,m,Q,co,z,rfl,rfl,eM,hl,rfl,HS⟩:=hrel;have dX:=aaV w Q;have ac9:=Mq w Q;by_cases am:k<6
  .have HD:=aa (aoo k am);by_cases hi:kg co.data.toList (eZ.getD k 0)<0;.have HV:=aa (show iS eZ s.data.toList=ab by rw[HS.out,HD.out,iS,if_pos hi];rfl);have HI:=aa hi;clear hi;go_wp2_with(first|(go_at_call 214;refine(alE co k am HI.out _).mono ?_;rintro e w'⟨rfl,n1,rfl⟩)|(go_at_call 215;refine(afg co eM _).mono ?_;rintro e w'⟨⟨a,b,rfl⟩,n2,rfl⟩)|(refine IH J _ J w Q _ J ?_)|(refine F8 J _ _ J w Q _ J J ?_)|(refine ba (NE J _ w Q _ (aH false) J J) J ⟨⟨Q,false,J,?_⟩,Jw _ _ _⟩;rw[HV.out];rfl))
   .obtain⟨i,e7⟩:∃i:Nat,kg co.data.toList (eZ.getD k 0)=i:=⟨(kg co.data.toList (eZ.getD k 0)).toNat,by omega⟩;have HI:=aa e7;have HX:iS (eZ.drop k) co.data.toList=(jE (co.extract 0 i).data.toList).bind fun n=>(iS (eZ.drop (k+1)) (co.extract (i+1) co.size).data.toList).map fun r=>n::r:=by rw[HD.out,iS,if_neg hi,e7,Int.toNat_natCast,xd,xd,FM,Nat.sub_zero];rw[List.take_of_length_le (l:=co.data.toList.drop (i+1)) (by rw[List.length_drop,<-Lib.size_eq];exact aA _)]
    have HX:=aa HX;clear hi e7;have hC:(co.extract 0 i).size<4294967296:=by simp;omega
    have lw:(co.extract (i+1) co.size).size<4294967296:=by simp;omega
    cases u:jE (co.extract 0 i).data.toList with
     |none=>have HV:=aa (show iS eZ s.data.toList=ab by rw[HS.out,HX.out,u];rfl);have HN:=aa u;clear u;go_wp2_with(first|(go_at_call 214;refine(WE co k am i HI.out eM _).mono ?_;rintro e w'⟨rfl,n1,rfl⟩)|(go_at_call 215;refine(Wq _ HN.out hC _).mono ?_;rintro e w'⟨rfl,n2,rfl⟩)|(refine IH J _ J w Q _ J ?_)|(refine F8 J _ _ J w Q _ J J ?_)|(refine ba (NE J _ w Q _ (aH false) J J) J ⟨⟨Q,false,J,?_⟩,Jw _ _ _⟩;rw[HV.out];rfl))
     |some n=>
      have HV:=aa (show iS eZ s.data.toList=(iS (eZ.drop (k+1)) (co.extract (i+1) co.size).data.toList).map fun r=>(Q++[n])++r by rw[HS.out,HX.out,u,Option.bind_some,Option.map_map];congr 1;funext r;simp);have HN:=aa u;clear u;have Fs:=I2 w Q;go_wp2_with(first|(go_at_call 214;refine(WE co k am i HI.out eM _).mono ?_;rintro e w'⟨rfl,n1,rfl⟩)|(go_at_call 215;refine(YO _ n HN.out hC _).mono ?_;rintro e w'⟨rfl,n2,rfl⟩));go_round;case rel=>exact⟨k+1,_,Q++[n],_,by omega,by go_num,J,lw,by rw[cl,hl];rfl,J,HV⟩
      case measure=>simp[intOf];omega
  .obtain rfl:k=6:=by omega
   have HX:=aa (show iS (eZ.drop 6) co.data.toList=(jE co.data.toList).map fun n=>[n]from J);have Fs:=I2 w Q;cases u:jE co.data.toList with
    |none=>have HV:=aa (show iS eZ s.data.toList=ab by rw[HS.out,HX.out,u];rfl);have HN:=aa u;clear u Fs;have Fs:∀m,(SW w Q m).setCell ⟨w.heap.size+1,6,ab⟩ (I R 0)=SW w (Q++[0]) m:=fun m=>I2 w Q m 0 6 hl (by omega);go_wp2_with(first|(go_at_call 215;refine(Wq _ HN.out eM _).mono ?_;rintro e w'⟨rfl,n2,rfl⟩)|(refine IH J _ J w _ _ J ?_)|(refine F8 J _ _ J w _ _ J J ?_)|(refine ba (NE J _ w _ _ (aH false) J J) J ⟨⟨_,false,J,?_⟩,Jw _ _ _⟩;rw[HV.out];rfl))
    |some n=>have HV:=aa (show iS eZ s.data.toList=U (Q++[n])by rw[HS.out,HX.out,u];rfl);have HN:=aa u;clear u;go_wp2_with(first|(go_at_call 215;refine(YO _ n HN.out eM _).mono ?_;rintro e w'⟨rfl,n2,rfl⟩)|(refine IH J _ J w _ _ J ?_)|(refine F8 J _ _ J w _ _ J J ?_)|(refine ba (NE J _ w _ _ (aH true) J J) J ⟨⟨_,true,J,?_⟩,Jw _ _ _⟩;rw[HV.out];rfl))
end Go.Proofs.YtefdakbahplnbaaGreatDoor
namespace Go.Proofs.YtefdakbahplnbaaGreatDoor
open Go.RowKit
def W6:Option (Nat×Nat×Nat×Nat)->ag|ab=>az #[oQ 0 0 0 0,b8 43 (I R 4)]|U (ip,b,lo,hi)=>az #[oQ ip b lo hi, .nilIface]
abbrev lN(ip b lo hi:Nat):Array ag:=#[I aj ip,I R b,I R lo,I R hi]
theorem abD:(ae.info? 127).map (·.size)=U 4:=by kernel_rfl
theorem nG{fn:Func}{p ay:Tmp}(h:fn.results=#[.cell p 127, .tmp ay])(tmps:Array ag)(w:ac)(g ip b lo hi:Nat)(v:ag)(hp:tmps.getD p undef=av (U ⟨g,0,ab⟩))(hv:tmps.getD ay undef=v)(hg:w.heap[g]?=U (.cells (lN ip b lo hi) 127 (0,0))):(results fn tmps).run ae w= .ok (az #[oQ ip b lo hi,v]) w:=by rw[xf h,hp,hv];have hl:=tT (P:=ae) w g 127 127 (lN ip b lo hi) (0,0) _ hg underlying127 J abD;simp[asAddr,hl]
def NW(W:ac)(Q:List Nat)(ip b lo hi m:Nat):ac:=((W.alloc (.cells (dc Q) 199)).alloc (.cells (lN ip b lo hi) 127)).drewN m
theorem abg(W:ac)(Q:List Nat)(ip b lo hi m g:Nat)(hg:g<W.heap.size):(NW W Q ip b lo hi m).heap[g]?=W.heap[g]?:=by show((W.alloc _).alloc _).heap[g]?=_;rw[show((W.alloc (.cells (dc Q) 199)).alloc (.cells (lN ip b lo hi) 127)).heap[g]?=(W.alloc (.cells (dc Q) 199)).heap[g]? from AU _ _ (h:=by simp;omega)];exact AU _ _ (h:=hg)
theorem ao1(W:ac)(Q:List Nat)(ip b lo hi m:Nat):(NW W Q ip b lo hi m).heap[W.heap.size]?=U (.cells (dc Q) 199 (0,0)):=AQ W _ _
theorem w4(W:ac)(Q:List Nat)(ip b lo hi m:Nat):(NW W Q ip b lo hi m).heap[W.heap.size+1]?=U (.cells (lN ip b lo hi) 127 (0,0)):=y' W _ _
theorem I6(W:ac)(Q:List Nat)(ip b lo hi m k:Nat)(z:k<7):(NW W Q ip b lo hi m).cell? ⟨W.heap.size,k,ab⟩=U (I R (Q.getD k 0)):=by rw[aT _ _ k _ _ _ (ao1 W Q ip b lo hi m),EC Q k z]
theorem Nw(W:ac)(Q:List Nat)(ip b lo hi m rS fL uS e7:Nat):(NW W Q ip b lo hi m).setRow (W.heap.size+1) (lN rS fL uS e7)=NW W Q rS fL uS e7 m:=by have h:=pi (W.alloc (.cells (dc Q) 199)) (lN ip b lo hi) (lN rS fL uS e7) 127;rw[show(W.alloc (.cells (dc Q) 199)).heap.size=W.heap.size+1 by simp]at h;exact congrArg (FL · m) h
theorem alt(W:ac)(Q:List Nat)(ip b lo hi m:Nat):(NW W Q ip b lo hi m).cell? ⟨W.heap.size+1,0,ab⟩=U (I aj ip):=aT _ _ 0 _ _ _ (w4 W Q ip b lo hi m)
theorem alz(W:ac)(Q:List Nat)(ip b lo hi m:Nat):(NW W Q ip b lo hi m).cell? ⟨W.heap.size+1,1,ab⟩=U (I R b):=aT _ _ 1 _ _ _ (w4 W Q ip b lo hi m)
theorem al8(W:ac)(Q:List Nat)(ip b lo hi m:Nat):(NW W Q ip b lo hi m).cell? ⟨W.heap.size+1,2,ab⟩=U (I R lo):=aT _ _ 2 _ _ _ (w4 W Q ip b lo hi m)
theorem adw(W:ac)(Q:List Nat)(ip b lo hi m:Nat):(NW W Q ip b lo hi m).cell? ⟨W.heap.size+1,3,ab⟩=U (I R hi):=aT _ _ 3 _ _ _ (w4 W Q ip b lo hi m)
theorem ada(W:ac)(Q:List Nat)(ip b lo hi m k:Nat):(NW W Q ip b lo hi m).frozen? ⟨W.heap.size+1,k,ab⟩=false:=cy _ _ k _ _ (w4 W Q ip b lo hi m)
theorem ahQ(W:ac)(Q:List Nat)(ip b lo hi m x:Nat):(NW W Q ip b lo hi m).setCell ⟨W.heap.size+1,0,ab⟩ (I aj x)=NW W Q x b lo hi m:=by rw[cJ _ _ 0 _ _ _ _ (w4 W Q ip b lo hi m)];exact Nw W Q ip b lo hi m x b lo hi
theorem aky(W:ac)(Q:List Nat)(ip b lo hi m x:Nat):(NW W Q ip b lo hi m).setCell ⟨W.heap.size+1,1,ab⟩ (I R x)=NW W Q ip x lo hi m:=by rw[cJ _ _ 1 _ _ _ _ (w4 W Q ip b lo hi m)];exact Nw W Q ip b lo hi m ip x lo hi
theorem ajz(W:ac)(Q:List Nat)(ip b lo hi m x:Nat):(NW W Q ip b lo hi m).setCell ⟨W.heap.size+1,2,ab⟩ (I R x)=NW W Q ip b x hi m:=by rw[cJ _ _ 2 _ _ _ _ (w4 W Q ip b lo hi m)];exact Nw W Q ip b lo hi m ip b x hi
theorem afH(W:ac)(Q:List Nat)(ip b lo hi m x:Nat):(NW W Q ip b lo hi m).setCell ⟨W.heap.size+1,3,ab⟩ (I R x)=NW W Q ip b lo x m:=by rw[cJ _ _ 3 _ _ _ _ (w4 W Q ip b lo hi m)];exact Nw W Q ip b lo hi m ip b lo x
theorem ZZ(W:ac)(Q:List Nat)(ip b lo hi m n:Nat):(NW W Q ip b lo hi m).drewN n=NW W Q ip b lo hi (m+n):=by unfold NW;rw[N2]
theorem aj9(W:ac)(Q:List Nat):NW W Q 0 0 0 0 0=(W.alloc (.cells (dc Q) 199)).alloc (.cells (lN 0 0 0 0) 127):=TS _
theorem Ug(W:ac)(Q:List Nat)(ip b lo hi m:Nat):Below W.heap.size W (NW W Q ip b lo hi m):=jq (((aS _ _).alloc (aA _) _).alloc (by simp) _) m
theorem ajk(W:ac)(Q:List Nat)(ip b lo hi m:Nat):(NW W Q ip b lo hi m).drew=NW W Q ip b lo hi (m+1):=ZZ W Q ip b lo hi m 1
attribute[local go_sem]ajk I6 alt alz al8 adw ada ahQ aky ajz afH ZZ
theorem nU{X:ac}{g:Nat}(hX:X.heap[g]?=U (.cells (lN 0 0 0 0) 127 (0,0))):X.cell? ⟨g,0,ab⟩=U (I aj 0)/\(∀k,X.frozen? ⟨g,k,ab⟩=false)/\(∀a,X.setCell ⟨g,0,ab⟩ (I aj a)=X.setRow g #[I aj a,I R 0,I R 0,I R 0]):=⟨aT _ _ 0 _ _ _ hX,fun k=>cy _ _ k _ _ hX,fun _=>cJ _ _ 0 _ _ _ _ hX⟩
theorem ajd(X:ac)(g:Nat)(c0 c1 c2:Array ag)(hX:X.heap[g]?=U (.cells c0 127 (0,0))):(X.setRow g c1).setRow g c2=X.setRow g c2:=by
 have hg:=(bM.1 hX).1;unfold World.setRow;congr 1;apply vB;intro j;simp only[Array.getElem?_modify];by_cases h:g=j;.subst h;simp[hX]
 .simp[h]
theorem nW{X:ac}{g:Nat}{c0:Array ag}(hX:X.heap[g]?=U (.cells c0 127 (0,0))):(∀cs k,(X.setRow g cs).cell? ⟨g,k,ab⟩=cs[k]?)/\(∀cs k,(X.setRow g cs).frozen? ⟨g,k,ab⟩=false)/\(∀cs k v,(X.setRow g cs).setCell ⟨g,k,ab⟩ v=X.setRow g (cs.setIfInBounds k v)):=⟨fun cs k=>aT _ _ k _ _ _ (aV _ _ _ cs _ _ hX),fun cs k=>cy _ _ k _ _ (aV _ _ _ cs _ _ hX),fun cs k v=>by rw[cJ _ _ k _ _ _ _ (aV _ _ _ cs _ _ hX),ajd X g c0 _ _ hX]⟩
def mu(Q:List Nat):Nat->Nat|0=>0|k+1=>mu Q k*256+Q.getD k 0
theorem ajQ(Q:List Nat)(k:Nat):mu Q (k+1)=mu Q k*256+Q.getD k 0:=rfl
theorem an'(W:ac)(o:Obj)(g:Nat)(hg:g<W.heap.size):(W.alloc o).heap[g]?=W.heap[g]?:=AU _ _ (h:=hg)
theorem aiF(Q:List Nat)(k:Nat)(z:k<4)(bt:mu Q k<256^k)(hb:Q.getD k 0<=255):bits .or aj ((mu Q k:Int)*256%4294967296) (Q.getD k 0:Int)=((mu Q (k+1):Nat):Int):=by have h3:mu Q k<16777216:=dk bt (Nat.pow_le_pow_right (n:=256) (j:=3) (by decide) (by omega));rw[show(mu Q k:Int)*256%4294967296=(mu Q k:Int)*256 by omega,ZO _ _ h3 (by omega)];rfl
theorem aiH{s:List UInt8}{Q:List Nat}(F:iS eZ s=U Q)(k:Nat)(z:k<4)(hb:¬Q.getD k 0<=255):ca s=ab:=by obtain⟨cY,_,_⟩:=H' _ _ _ F;obtain⟨a,b,c,d,e,f,g,rfl⟩:=Gb cY;unfold ca;rw[F];show(if _ then _ else _)=_;rw[if_neg];rintro⟨q,h2,h3,h4,_⟩;match k,z with|0,_=>exact hb q|1,_=>exact hb h2|2,_=>exact hb h3|3,_=>exact hb h4
theorem VQ{w W W2:ac}{Q:List Nat}{ip b lo hi m:Nat}(EJ:w.heap.size<W.heap.size)(hR:W.heap[w.heap.size]?=U (.cells (lN 0 0 0 0) 127 (0,0)))(h:Below (NW W Q ip b lo hi m).heap.size (NW W Q ip b lo hi m) W2):W2.heap[w.heap.size]?=U (.cells (lN 0 0 0 0) 127 (0,0))/\W2.heap[W.heap.size+1]?=U (.cells (lN ip b lo hi) 127 (0,0))/\Below W.heap.size W W2:=by
 have hz:(NW W Q ip b lo hi m).heap.size=W.heap.size+2:=by show((W.alloc _).alloc _).heap.size=_;simp
 exact⟨(h.block _ (by omega)).trans ((abg _ _ _ _ _ _ _ _ EJ).trans hR),(h.block _ (by omega)).trans (w4 _ _ _ _ _ _ _),(Ug _ _ _ _ _ _ _).trans (h.mono (by omega))⟩
theorem C7{Q:List Nat}(h:∀n∈Q,n<100000)(k:Nat):Q.getD k 0<100000:=by
 rw[cI];by_cases z:k<Q.length;.rw[List.getElem?_eq_getElem z];exact h _ (List.getElem_mem z)
 .rw[C1 (by omega)];exact dk Nat.one_pos (by decide)
theorem amD{s:List UInt8}{Q:List Nat}(F:iS eZ s=U Q)(n4:∀j,j<4->Q.getD j 0<=255):ca s=if cf (mu Q 4) (Q.getD 4 0) (Q.getD 5 0) (Q.getD 6 0)=0 then U (mu Q 4,Q.getD 4 0,Q.getD 5 0,Q.getD 6 0)else ab:=by
 obtain⟨cY,_,_⟩:=H' _ _ _ F;obtain⟨a,b,c,d,e,f,g,rfl⟩:=Gb cY;have h0:a<=255:=n4 0 (by omega);have q:b<=255:=n4 1 (by omega);have h2:c<=255:=n4 2 (by omega);have h3:d<=255:=n4 3 (by omega);have hi:mu [a,b,c,d,e,f,g] 4=oj a b c d:=by show(((0*256+a)*256+b)*256+c)*256+d=((a*256+b)*256+c)*256+d;rw[Nat.zero_mul,Nat.zero_add]
 rw[hi];unfold ca;rw[F];show(if _ then _ else _)=if cf (oj a b c d) (e:Nat) (f:Nat) (g:Nat)=0 then _ else _;by_cases M:cf (oj a b c d) (e:Nat) (f:Nat) (g:Nat)=0;.rw[if_pos ⟨h0,q,h2,h3,M⟩,if_pos M];rfl
 .rw[if_neg (fun h=>M h.2.2.2.2),if_neg M]
theorem ahG(s:ByteArray)(F:s.size<4294967296)(w:ac):ap ae 129 #[ad s] w fun e w'=>e=aq (W6 (ca s.data.toList))/\Below w.heap.size w w':=by
 go_enter func129,ntmps129;go_wp2_with(go_at_call 172;refine(acO s F _).mono ?_;rintro e W⟨⟨Q,ok,rfl,rZ⟩,hW⟩;have dx:=aa rZ;clear rZ;refine Hid.out ?_);refine aa ?_;have EJ:w.heap.size<W.heap.size:=by have:=hW.size;simp at this;omega
 have hR:W.heap[w.heap.size]?=U (.cells (lN 0 0 0 0) 127 (0,0)):=(hW.block _ (by simp)).trans (a7 w _);have HW:=aa (show Below w.heap.size w W from((aS w.heap.size w).alloc (aA _) _).trans (hW.mono (by simp)));clear hW;cases ok with
  |false=>have HV:=aa (show ca s.data.toList=ab by unfold ca;rw[dx.out];rfl);have p':(W.alloc (.cells (dc Q) 199)).heap[w.heap.size]?=U (.cells (lN 0 0 0 0) 127 (0,0)):=(an' _ _ _ EJ).trans hR;obtain⟨r1,r2,r3⟩:=nU p';obtain⟨r4,r5,r6⟩:=nW p';go_wp2_with(first|(refine bK J 199 _ _ J W.heap.size (dc Q) J J 199 (dc []) (a7 _ _) CK J (JU Q) ?_;rw[pi])|(refine ba (nG J _ _ w.heap.size 0 0 0 0 (b8 43 (I R 4)) J J (aV _ _ _ _ _ _ p')) J ⟨?_,?_⟩;(.rw[HV.out];rfl);(.exact below_setRow (HW.out.alloc (by omega) _) (aA _) _)))
  |true=>
   have rZ:iS eZ s.data.toList=U Q:=dx.out;obtain⟨cY,lQ,_⟩:=H' _ _ _ rZ;go_wp2_with(refine bK J 199 _ _ J W.heap.size (dc Q) J J 199 (dc []) (a7 _ _) CK J (JU Q) ?_;rw[pi]);go_loopw[17](fun i w'=>∃k m:Nat,k<=4/\i=I R k/\w'=NW W Q (mu Q k) 0 0 0 m/\(∀j,j<k->Q.getD j 0<=255)/\mu Q k<256^k)(fun i _=>4-(intOf i).toNat);case atStart=>exact⟨0,0,by omega,J,(aj9 W Q).symm,fun j hj=>by omega,Nat.one_pos⟩
   case round=>
    obtain⟨k,m,z,rfl,rfl,n4,bt⟩:=hrel;by_cases am:k<4
    .obtain⟨B4,qM⟩:=af (Q.getD k 0);have hN:∀m,(NW W Q (mu Q k) 0 0 0 m).cell? ⟨W.heap.size,k,ab⟩=U (I R B4):=fun m=>by rw[qM];exact I6 W Q (mu Q k) 0 0 0 m k (by omega)
     by_cases hb:Q.getD k 0<=255
     .have HE:=aiF Q k am bt hb;have Ts:mu Q (k+1)<256^(k+1):=by rw[ajQ,Nat.pow_succ];omega
      rw[<-qM]at HE hb;have HK:=aa qM;clear qM;go_wp2;go_region;go_wp2;go_round;case rel=>
       exact⟨k+1,m+1,by omega,by go_num,J,fun j hj=>by
        rcases Nat.lt_or_ge j k with h|h;.exact n4 j h
        .rw[show j=k by omega,<-HK.out];exact hb,Ts⟩
      case measure=>simp[intOf];omega
     .have HV:=aa (show ca s.data.toList=ab from aiH rZ k am hb);rw[<-qM]at hb;clear qM;have p':(NW W Q (mu Q k) 0 0 0 m).heap[w.heap.size]?=U (.cells (lN 0 0 0 0) 127 (0,0)):=(abg _ _ _ _ _ _ _ _ EJ).trans hR;obtain⟨r1,r2,r3⟩:=nU p';obtain⟨r4,r5,r6⟩:=nW p';go_wp2_with(first|(refine ba (nG J _ _ w.heap.size 0 0 0 0 (b8 43 (I R 4)) J J (aV _ _ _ _ _ _ p')) J ⟨?_,?_⟩;(.rw[HV.out];rfl);(.exact below_setRow (HW.out.trans ((Ug _ _ _ _ _ _ _).mono (by omega))) (aA _) _)))
    .obtain rfl:k=4:=by omega
     obtain⟨om,h4⟩:=af (Q.getD 4 0);obtain⟨rx,h5⟩:=af (Q.getD 5 0);obtain⟨uR,h6⟩:=af (Q.getD 6 0);obtain⟨ip,h7⟩:=af (mu Q 4);have HP:=aa (amD rZ n4);have hN4:∀a b c d m,(NW W Q a b c d m).cell? ⟨W.heap.size,4,ab⟩=U (I R om):=fun a b c d m=>by rw[h4];exact I6 W Q a b c d m 4 (by omega)
     have hN5:∀a b c d m,(NW W Q a b c d m).cell? ⟨W.heap.size,5,ab⟩=U (I R rx):=fun a b c d m=>by rw[h5];exact I6 W Q a b c d m 5 (by omega)
     have hN6:∀a b c d m,(NW W Q a b c d m).cell? ⟨W.heap.size,6,ab⟩=U (I R uR):=fun a b c d m=>by rw[h6];exact I6 W Q a b c d m 6 (by omega)
     have XI:ip<4294967296:=by rw[h7];exact bt
     have zj:om<100000:=by rw[h4];exact C7 lQ 4
     have acc:rx<100000:=by rw[h5];exact C7 lQ 5
     have ajP:uR<100000:=by rw[h6];exact C7 lQ 6
     rw[<-h4,<-h5,<-h6,<-h7]at HP;rw[<-h7];clear h4 h5 h6 h7 bt n4 rZ;by_cases M:cf ip om rx uR=0;.have HV:=aa (show ca s.data.toList=U (ip,om,rx,uR)by rw[HP.out,if_pos M]);have HE:=aa (show cj (cf ip om rx uR)= .nilIface by rw[M];rfl);clear M;go_wp2;go_region;go_wp2_with(go_at_call 134;refine(xI ip XI om rx uR ⟨by omega,by omega⟩ ⟨by omega,by omega⟩ ⟨by omega,by omega⟩ _).mono ?_;rw[HE.out];rintro e W2⟨rfl,ex⟩;obtain⟨p',Jt,k9⟩:=VQ EJ hR ex;clear ex;obtain⟨r1,r2,r3⟩:=nU p';obtain⟨r4,r5,r6⟩:=nW p';have c0:=aT _ _ 0 _ _ _ Jt;have c1:=aT _ _ 1 _ _ _ Jt;have c2:=aT _ _ 2 _ _ _ Jt;have c3:=aT _ _ 3 _ _ _ Jt;refine Hid.out ?_);refine aa ?_;go_wp2_with(refine ba (nG J _ _ w.heap.size ip om rx uR .nilIface J J (aV _ _ _ _ _ _ p')) J ⟨?_,?_⟩;(.rw[HV.out];rfl);(.exact below_setRow (HW.out.trans (k9.mono (by omega))) (aA _) _))
     .have HV:=aa (show ca s.data.toList=ab by rw[HP.out,if_neg M]);have HE:=aa (show cj (cf ip om rx uR)=b8 43 (I R (cf ip om rx uR:Nat))by unfold cj;rw[if_neg M]);clear M;go_wp2;go_region;go_wp2_with(go_at_call 134;refine(xI ip XI om rx uR ⟨by omega,by omega⟩ ⟨by omega,by omega⟩ ⟨by omega,by omega⟩ _).mono ?_;rw[HE.out];rintro e W2⟨rfl,ex⟩;obtain⟨p',Jt,k9⟩:=VQ EJ hR ex;clear ex;obtain⟨r1,r2,r3⟩:=nU p';obtain⟨r4,r5,r6⟩:=nW p';refine Hid.out ?_);refine aa ?_;go_wp2_with(refine ba (nG J _ _ w.heap.size 0 0 0 0 (b8 43 (I R 4)) J J (aV _ _ _ _ _ _ p')) J ⟨?_,?_⟩;(.rw[HV.out];rfl);(.exact below_setRow (HW.out.trans (k9.mono (by omega))) (aA _) _))
end Go.Proofs.YtefdakbahplnbaaGreatDoor
namespace Go.Proofs.YtefdakbahplnbaaGreatDoor
open Go.RowKit
def wo(ip b lo hi k:Nat):List Nat:=[if 0<k then fS ip 0 else 0,if 1<k then fS ip 1 else 0,if 2<k then fS ip 2 else 0,if 3<k then fS ip 3 else 0,b,lo,hi]
theorem ad1(ip b lo hi k:Nat)(z:k<4):(dc (wo ip b lo hi k)).setIfInBounds k (I R (fS ip k:Nat))=dc (wo ip b lo hi (k+1)):=by match k,z with|0,_=>rfl|1,_=>rfl|2,_=>rfl|3,_=>rfl
theorem XD(ip b lo hi:Nat)(bt:ip<4294967296):wo ip b lo hi 4=gx ip b lo hi:=by show[fS ip 0,fS ip 1,fS ip 2,fS ip 3,b,lo,hi]=_;unfold fS gx;rw[show ip/2^(24-8*0)%256=ip/16777216 by omega,show ip/2^(24-8*1)%256=ip/65536%256 by omega,show ip/2^(24-8*2)%256=ip/256%256 by omega,show ip/2^(24-8*3)%256=ip%256 by omega]
theorem Rs(V:ac)(Q:List Nat)(m g:Nat)(hg:g<V.heap.size)(o:Nat):(SW V Q m).cell? ⟨g,o,ab⟩=V.cell? ⟨g,o,ab⟩:=(H0 V Q m).cell (p:=⟨g,o,ab⟩) hg
attribute[local go_sem]VC
theorem ae9(ip b lo hi:Nat)(bt:ip<4294967296)(w:ac):ap ae 216 #[oQ ip b lo hi] w fun e w'=>e=aq (aw (dc (gx ip b lo hi)))/\Below w.heap.size w w':=by
 have adc:=aa (XD ip b lo hi bt);go_enter func216,ntmps216;go_wp2;obtain⟨V,hV⟩:=af (w.alloc (.cells #[I aj ip,I R b,I R lo,I R hi] 127));have hz:w.heap.size+1=V.heap.size:=by rw[hV];simp
 have H3:=aa (show Below w.heap.size w V by rw[hV];exact(aS _ _).alloc (aA _) _);have qP:V.cell? ⟨w.heap.size,0,ab⟩=U (I aj ip):=by rw[hV];exact World.cell?_alloc_at _ _ _ _ J
 have H:∀Q m,(SW V Q m).cell? ⟨w.heap.size,0,ab⟩=U (I aj ip):=fun Q m=>(Rs V Q m _ (by omega) 0).trans qP;rw[<-hV,hz];clear hV qP;go_loopw[12](fun i w'=>∃k m:Nat,k<=4/\i=I R k/\w'=SW V (wo ip b lo hi k) m)(fun i _=>4-(intOf i).toNat);case atStart=>exact⟨0,0,by omega,J,(TS _).symm⟩
 case round=>
  obtain⟨k,m,z,rfl,rfl⟩:=hrel;by_cases am:k<4
  .have dX:∀m,(SW V (wo ip b lo hi k) m).cell? ⟨V.heap.size+1,k,ab⟩=U _:=fun m=>aaV V (wo ip b lo hi k) m k (by omega);have ac9:=Mq V (wo ip b lo hi k);have Ff:=O9 ip k;have Fs:∀m,(SW V (wo ip b lo hi k) m).setCell ⟨V.heap.size+1,k,ab⟩ (I R (fS ip k:Nat))=SW V (wo ip b lo hi (k+1)) m:=fun m=>anF V _ _ m k _ (ad1 ip b lo hi k am);go_wp2_with(go_at_call 242;refine(abF ip k bt (by omega) _).mono ?_;rintro e w'⟨rfl,rfl⟩);go_round;case rel=>exact⟨k+1,m,by omega,by go_num,J⟩
   case measure=>simp[intOf];omega
  .obtain rfl:k=4:=by omega
   go_wp2_with(first|(refine IH J _ J V _ _ J ?_)|(refine F8 J _ _ J V _ _ J J ?_));refine ba (results_cell_row J _ _ V.heap.size 199 (dc (wo ip b lo hi 4)) (0,0) _ J (aV _ _ _ _ _ _ (Jq V _ _)) underlying199 J CK) J ⟨?_,?_⟩;.rw[adc.out]
   .exact H3.out.trans ((Jw V _ _).mono (by omega))
end Go.Proofs.YtefdakbahplnbaaGreatDoor
namespace Go.Proofs.YtefdakbahplnbaaGreatDoor
open Go.RowKit Go.Sort
def wM(ip:Nat)(b lo hi:Int):ag:=az #[ad (if cf ip b lo hi=0 then⟨(mW ip b.toNat lo.toNat hi.toNat).toArray⟩else⟨#[]⟩),cj (cf ip b lo hi)]
def TX(w:ac)(aC:Nat)(Q:List Nat)(X:ac):Prop:=Below w.heap.size w X/\X.heap[aC]?=U (.cells (dc Q) 199 (0,0))/\rY X
theorem TX.au{w X Y:ac}{aC:Nat}{Q:List Nat}(h:TX w aC Q X)(hb:Below X.heap.size X Y):TX w aC Q Y:=⟨h.1.trans (hb.mono h.1.size),(hb.block aC (bM.1 h.2.1).1).trans h.2.1,Ov h.2.2 hb⟩
theorem TX.cell{w X:ac}{aC:Nat}{Q:List Nat}(h:TX w aC Q X)(k:Nat)(z:k<7):X.cell? ⟨aC,k,ab⟩=U (I R (Q.getD k 0)):=by rw[aT _ _ k _ _ _ h.2.1,EC Q k z]
theorem NH{P:Program}{a_:Array bz}{r:List bz}{aE:Exit->Act->ac->Prop}{a:Act}{W0:ac}(d5:ac->Prop)(h:d5 W0)(ge:∀W,d5 W->wpList P a_ aE r a W):wpList P a_ aE r a W0:=ge _ h
def ns(Q:List Nat)(k:Nat):List UInt8:=mb (eZ.take k) Q
theorem RZ(Q:List Nat)(h:Q.length=7):ns Q 0=aQ (Q.getD 0 0):=by obtain⟨a,b,c,d,e,f,g,rfl⟩:=Gb h;rfl
theorem Eu(Q:List Nat)(h:Q.length=7)(k:Nat)(z:k<6):ns Q (k+1)=ns Q k++(eZ.getD k 0::aQ (Q.getD (k+1) 0)):=by obtain⟨a,b,c,d,e,f,g,rfl⟩:=Gb h;match k,z with|0,_=>rfl|1,_=>simp[ns,eZ,mb]|2,_=>simp[ns,eZ,mb]|3,_=>simp[ns,eZ,mb]|4,_=>simp[ns,eZ,mb]|5,_=>simp[ns,eZ,mb]
theorem GG(Q:List Nat)(h:Q.length=7)(hb:∀k,Q.getD k 0<100000):∀k,k<=6->(ns Q k).length<=6*(k+1)|0,_=>by rw[RZ Q h,tN];have:=BE _ (hb 0);omega|k+1,z=>by rw[Eu Q h k (by omega),cl,fh,tN];have:=BE _ (hb (k+1));have:=GG Q h hb k (by omega);omega
theorem RI{Q:List Nat}{ip b lo hi:Nat}(h:Q=gx ip b lo hi):ns Q 6=mW ip b lo hi:=by rw[h];rfl
set_option maxHeartbeats 1000000 in theorem O_(ip:Nat)(bt:ip<4294967296)(b lo hi:Int)(hb:-9223372036854775808<=b/\b<=9223372036854775807)(hl:-9223372036854775808<=lo/\lo<=9223372036854775807)(hh:-9223372036854775808<=hi/\hi<=9223372036854775807)(w:ac)(ht:rY w):ap ae 174 #[oQ ip b lo hi] w fun e w'=>e=aq (wM ip b lo hi)/\Below w.heap.size w w':=by
 have HT:=aa ht;clear ht;by_cases M:cf ip b lo hi=0
 .obtain⟨⟨l9,Vi⟩,⟨jM,hlh,hh6⟩,_⟩:=rM M;obtain⟨b,rfl⟩:∃k:Nat,b=k:=⟨b.toNat,by omega⟩;obtain⟨lo,rfl⟩:∃k:Nat,lo=k:=⟨lo.toNat,by omega⟩;obtain⟨hi,rfl⟩:∃k:Nat,hi=k:=⟨hi.toNat,by omega⟩;have HV:=aa (show wM ip b lo hi=az #[ad ⟨(mW ip b lo hi).toArray⟩, .nilIface]by unfold wM;rw[if_pos M,M];rfl);have HE:=aa (show cj (cf ip b lo hi)= .nilIface by rw[M];rfl);clear M;go_enter func174,ntmps174;go_wp2_with(first|(go_at_call 134;refine(xI ip bt b lo hi hb hl hh _).mono ?_;rw[HE.out];rintro e W⟨rfl,hW⟩;have ex:Below (w.heap.size+1) (w.alloc (.cells #[I aj ip,I R b,I R lo,I R hi] 127)) W:=hW.mono (by simp);obtain⟨h0,q,h2,h3⟩:=P_ ex;have HW:=aa (show Below w.heap.size w W from((aS w.heap.size w).alloc (aA _) _).trans (hW.mono (by simp)));clear hW ex)|(go_at_call 216;refine(ae9 ip b lo hi bt _).mono ?_;rintro e W2⟨rfl,ex⟩;have lr:=aa (HW.out.trans (ex.mono HW.out.size));clear ex HW h0 q h2 h3;refine Hid.out ?_));refine aa ?_;obtain⟨Q,gT⟩:=af (gx ip b lo hi);rw[<-gT];have nS:=aa gT;clear gT;go_wp2_with(refine bK J 199 _ _ J W2.heap.size (dc Q) J J 199 (dc []) (a7 _ _) CK J (JU Q) ?_;rw[pi];refine Hid.out ?_);refine aa ?_;obtain⟨aC,hL⟩:=af W2.heap.size;have W_:TX w aC Q (W2.alloc (.cells (dc Q) 199)):=⟨lr.out.alloc (lr.out.size) _,by rw[hL];exact a7 _ _,Ov HT.out (lr.out.alloc (lr.out.size) _)⟩;rw[<-hL];clear hL;refine NH (TX w aC Q) W_ ?_;clear W_;intro X hX;have cY:Q.length=7:=by rw[nS.out];rfl
  have NO:∀k,Q.getD k 0<100000:=fun k=>C7 (fun n u=>by rw[nS.out]at u;simp only[gx,List.mem_cons,List.not_mem_nil,or_false]at u;omega) k;obtain⟨n0,h0⟩:=af (Q.getD 0 0);have l0:=NO 0;have c0:=hX.cell 0 (by omega);rw[<-h0]at l0 c0;have Lf:=aa h0;clear h0;have HX:=aa hX;clear hX;go_wp2_with(go_at_call 60;refine(zz n0 (by omega) _ HX.out.2.2).mono ?_;rintro e X1⟨rfl,c5⟩;have jY:=aa (HX.out.au c5);clear c5 HX c0;refine Hid.out ?_);refine aa ?_;rw[show aQ n0=ns Q 0 by rw[RZ Q cY,Lf.out]];go_wp2;go_loopw[18,6](fun i x w'=>∃k:Nat,k<=6/\i=I R k/\(∃t:ByteArray,x=ad t/\t.size<=100/\Hid (t=⟨(ns Q k).toArray⟩))/\Hid (TX w aC Q w'))(fun i _ _=>6-(intOf i).toNat);case atStart=>exact⟨0,by omega,J,⟨_,J,by have:=GG Q cY NO 0 (by omega);simp[qi];omega,aa J⟩,jY⟩
  case round=>
   obtain⟨k,z,rfl,⟨ZR,rfl,ltk,rN⟩,HX⟩:=hrel;by_cases am:k<6
   .obtain⟨B4,qM⟩:=af (Q.getD (k+1) 0);have uj:=NO (k+1);have zA:=HX.out.cell (k+1) (by omega);rw[<-qM]at uj zA;have HK:=aa qM;have HS:=aa (Eu Q cY k am);clear qM;have i1:(0:Int)<=k:=by omega
    have i2:(k:Int)<=k+1:=by omega
    have i3:(k:Int)+1<=6:=by omega
    have i4:(0:Int)<=(k:Int)+1:=by omega
    have i5:(k:Int)+1<7:=by omega
    obtain⟨fK,nj⟩:∃d:ByteArray,d=⟨(aQ B4).toArray⟩:=⟨_,J⟩;have ldk:fK.size<=5:=by have:=BE B4 uj;rw[<-tN]at this;rw[nj];simpa[qi]using this
    have Fn:=aa nj;clear nj;have HI:=fun X hT=>(zz B4 (by omega) X hT).mono fun e w' h=>(by rw[<-Fn.out]at h;exact h:e=aq (ad fK)/\Below X.heap.size X w');obtain⟨sx,F3⟩:∃x:ByteArray,x=⟨#[eZ.getD k 0]⟩:=⟨_,J⟩;have lsx:sx.size=1:=by rw[F3];rfl
    have fP:∀W,(Instr.slice 9 (ad ⟨#[46,46,46,47,58,45]⟩) (U (I R (k:Int))) (U (I R ((k:Int)+1))) ab).run ae W= .ok (ad sx) W:=fun W=>by rw[run_slice_string W 9 _ R R k (k+1) underlying9 i1 i2 (by exact i3),show((k:Int)+1).toNat=k+1 by omega,Int.toNat_natCast,TM k am,F3]
    have HSX:=aa F3;clear F3;have dF:R.wrap ((k:Int)+1)=(k:Int)+1:=by rw[IntKind.wrap_i64];omega
    have mz:∀d os,ap ae 60 #[I R B4] (grow (redrawn wr d) os) fun e bF=>e=aq (ad fK)/\∃p:Regrown,bF=grow (redrawn wr p.d) p.os:=fun d os=>Calls.regrown_of (HI _ (HX.out.au (cN _ _ _)).2.2);have ckr:=cell_regrown zA;have z1:¬9223372036854775807<1+fK.size:=by omega
    have z2:¬9223372036854775807<ZR.size+(1+fK.size):=by omega
    go_wp2;refine wp_region_quiet_below (by kernel_rfl) (by kernel_rfl) ?_;repeat(quiet_step(exact mz _ _))
    refine wpQuiet_nil ?_;intro _ bT;obtain⟨⟨dq,bJ⟩,bY⟩:=bT;subst bY;go_wp2;go_round;case rel=>
     refine⟨k+1,by omega,by go_num,⟨_,J,?_,?_⟩,aa (HX.out.au (cN _ _ _))⟩
     .have q:=GG Q cY NO (k+1) (by omega);rw[HS.out,cl,fh]at q;have h2:ZR.size=(ns Q k).length:=by rw[rN.out];simp[qi]
      have h3:fK.size=(aQ B4).length:=by rw[Fn.out];simp[qi]
      rw[<-HK.out]at q;rw[ml,ml];omega
     .refine aa ?_;rw[HS.out,rN.out,HSX.out,Fn.out,HK.out];apply za;simp[FK]
    case measure=>simp[intOf];omega
   .obtain rfl:k=6:=by omega
    go_wp2;go_ret2;exact⟨by rw[HV.out,<-RI nS.out,<-rN.out];rfl,HX.out.1⟩
 .have HV:=aa (show wM ip b lo hi=az #[ad ⟨#[]⟩,b8 43 (I R (cf ip b lo hi:Nat))]by unfold wM cj;rw[if_neg M,if_neg M]);have HE:=aa (show cj (cf ip b lo hi)=b8 43 (I R (cf ip b lo hi:Nat))by unfold cj;rw[if_neg M]);clear M;go_enter func174,ntmps174;go_wp2_with(go_at_call 134;refine(xI ip bt b lo hi hb hl hh _).mono ?_;rw[HE.out];rintro e W⟨rfl,hW⟩);go_ret2;exact⟨by rw[HV.out];rfl,((aS w.heap.size w).alloc (aA _) _).trans (hW.mono (by simp))⟩
end Go.Proofs.YtefdakbahplnbaaGreatDoor
namespace Go.Proofs.YtefdakbahplnbaaGreatDoor.Bp
end Go.Proofs.YtefdakbahplnbaaGreatDoor.Bp
namespace Go.Proofs.YtefdakbahplnbaaGreatDoor.Mm
open Go.Proofs.YtefdakbahplnbaaGreatDoor.Bp
open Go.RowKit
theorem MH(n:Nat)(f:Nat->ag)(h:∀i,(f i).oneCell'=true):(VA n f).all (·.oneCell')=true:=by rw[Array.all_eq_true_iff_forall_mem];intro v hv;obtain⟨i,hi,rfl⟩:=Array.mem_iff_getElem.1 hv;have q:=km n f i (by rw[l7]at hi;exact hi);rw[Array.getElem?_eq_getElem hi]at q;rw[Option.some.inj q];exact h i
theorem aeu(m:MS)(i:Nat):(fm m i).oneCell'=true:=by
 unfold fm;split;.rfl
 .split<;>rfl
theorem Z8:(ae.info? 155).map (·.size)=U 792:=by kernel_rfl
theorem aer{g:Nat}{m:MS}{W:ac}(h:fp g m W):ap ae 106 #[av (U ⟨g,0,ab⟩)] W fun e w'=>e=aq (av (U ⟨W.heap.size,0,ab⟩))/\fp W.heap.size m w'/\Below W.heap.size W w':=by
 have HM:=aa h;clear h;go_enter func106,ntmps106;go_wp2_with(first|(refine vC J 155 _ J g ?_ 155 (VA 792 (fm m)) (0,0) _ ?_ underlying155 J (by rw[l7];exact Z8) ?_;(.rfl);(.exact HM.out))|(refine bK J 155 _ _ J W.heap.size (VA 792 (fm m)) ?_ ?_ 155 Tryz.zeroCells155 ?_ (by rw[l7];exact Z8) (by rw[Y8,l7,l7]) (MH _ _ (aeu m)) ?_;(.rfl);(.rfl);(.exact a7 W _)));go_ret;refine⟨J,?_,?_⟩;.show(World.setRow _ _ _).heap[_]?=_;exact aV _ _ _ _ _ _ (a7 W _)
 .rw[pi];exact(aS _ _).alloc (aA _) _
end Go.Proofs.YtefdakbahplnbaaGreatDoor.Mm
namespace Go.Proofs.YtefdakbahplnbaaGreatDoor
open Go.RowKit Go.Extern.Stop Go.Stop Go.Extern
theorem ahi(v:ag)(w:ac):(apc #[b8 43 v]).run ae w= .ok (b8 350 (aw #[av (U ⟨9,43,ab⟩)])) w:=by kernel_rfl
theorem aiA(w:ac):((apd fun t=>do Go.Extern.Rtype.noPackHeld "Comparable" t;(fun a=>aH a.comparable)<$>typeInfo t) #[aw #[av (U ⟨9,43,ab⟩)]]).run ae w= .ok (aH true) w:=by kernel_rfl
theorem anf(v:ag)(zR:TypeId)(w:ac):(TO (b8 43 v) zR 352 true).run ae w= .ok (az #[.nilIface,aH false]) w:=acC underlying352 (by kernel_rfl) (by kernel_rfl) v zR w
theorem akF(v:ag)(zR:TypeId)(w:ac):(TO (b8 43 v) zR 355 true).run ae w= .ok (az #[.nilIface,aH false]) w:=acC underlying355 (by kernel_rfl) (by kernel_rfl) v zR w
theorem afP(v:ag)(zR:TypeId)(w:ac):(TO (b8 43 v) zR 357 true).run ae w= .ok (az #[.nilIface,aH false]) w:=acC underlying357 (by kernel_rfl) (by kernel_rfl) v zR w
set_option maxRecDepth 100000 in set_option maxHeartbeats 1000000 in theorem an5(a b:Int)(w:ac):ap ae 261 #[b8 43 (I R a),b8 43 (I R b),aH true] w fun e w'=>e=aq (aH (a==b))/\w'=w:=by
 have apL:=anf;have apr:=akF;have ap7:=afP;have aaI:=fun w=>Lib.run_eql_iface_int (P:=ae) w (t:=25) (tx:=43) (k:=R) a b underlying25 (by kernel_rfl) underlying43;cases J5:(a==b)with
  |true=>rw[J5]at aaI;clear J5;go_enter func261,ntmps261;go_wp2;refine wp_loop_rounds 1 ?_;rw[rounds_succ];go_wp2;go_ret;exact⟨J,J⟩
  |false=>rw[J5]at aaI;clear J5;go_enter func261,ntmps261;go_wp2;refine wp_loop_rounds 1 ?_;rw[rounds_succ];go_wp2;go_ret;exact⟨J,J⟩
set_option maxRecDepth 100000 in set_option maxHeartbeats 1000000 in theorem O'(a b:Int)(w:ac):ap ae 251 #[b8 43 (I R a),b8 43 (I R b)] w fun e w'=>e=aq (aH (a==b))/\w'=w:=by have h8:=@run_callFunc_extern ae 260 _ apc func260 (by kernel_rfl) (by kernel_rfl) (by kernel_rfl) (by kernel_rfl);have h32:=@run_callFunc_extern ae 289 _ (apd fun t=>do Go.Extern.Rtype.noPackHeld "Comparable" t;pure (aH (<-typeInfo t).comparable)) func289 (by kernel_rfl) (by kernel_rfl) (by kernel_rfl) (by kernel_rfl);have apT:=ahi;have apZ:=aiA;obtain⟨r,L⟩:=af (a==b);have HE:=an5 a b;rw[<-L]at HE⊢;clear L;go_enter func251,ntmps251;go_wp2_with(go_at_call 261;refine(HE _).mono ?_;rintro e w'⟨rfl,rfl⟩);go_ret;exact⟨J,J⟩
end Go.Proofs.YtefdakbahplnbaaGreatDoor
namespace Go.Proofs.YtefdakbahplnbaaGreatDoor.Bp
end Go.Proofs.YtefdakbahplnbaaGreatDoor.Bp
namespace Go.Proofs.YtefdakbahplnbaaGreatDoor.Mm
open Go.Proofs.YtefdakbahplnbaaGreatDoor.Bp
open Go.RowKit
def ul(r:RS)(a j:Nat):RS:={r with gM:=fun x=>if a<=x/\x<a+j then 0 else r.gM x}
theorem aev(r:RS)(a j:Nat):ul (vq r a 0) (a+1) j=ul r a (j+1):=by
 unfold ul vq;congr 1;funext x;by_cases h:x=a;.subst h;simp
 .by_cases q:a+1<=x/\x<a+1+j;.rw[if_pos q,if_pos (by omega)]
  .rw[if_neg q,if_neg (by omega)];exact if_neg h
theorem ajG(r:RS)(a:Nat):ul r a 0=r:=by
 unfold ul;have:(fun x=>if a<=x/\x<a+0 then 0 else r.gM x)=r.gM:=by funext x;rw[if_neg (by omega)]
 rw[this]
theorem VO(r:RS)(n x al:Nat):lB (lB r n x) n al=lB r n al:=by
 unfold lB;congr 1;funext k;by_cases h:k=n;.simp[h]
 .simp[h]
theorem anc:(ae.info? 60).map (·.size)=U 64:=by kernel_rfl
def wq(r:RS)(n:Nat)(b:Bool):RS:=lB (if r.ew n=0 then ul r (n*64) 64 else r) n (if b then 2 else 1)
end Go.Proofs.YtefdakbahplnbaaGreatDoor.Mm
namespace Go.Proofs.YtefdakbahplnbaaGreatDoor.Bp
end Go.Proofs.YtefdakbahplnbaaGreatDoor.Bp
namespace Go.Proofs.YtefdakbahplnbaaGreatDoor.Mm
open Go.Proofs.YtefdakbahplnbaaGreatDoor.Bp
open Go.RowKit
theorem Th(r:RS)(i:Nat):(e' r i).oneCell'=true:=by unfold e';split<;>rfl
theorem C8:(ae.info? 63).map (·.size)=U 780:=by kernel_rfl
end Go.Proofs.YtefdakbahplnbaaGreatDoor.Mm
