/- Digits to the base 16: readBytes, bytesText. -/
import Derived.Test.YtefdakbahplnbaaGreatDoorK17
open Go.Proofs.Tryz
open Bool renaming and_assoc->N_,eq_iff_iff->fs
open Go renaming Calls->ap,Value->ag,World->ac,below_regrown->cN,bodyPost_ret->ba,cell_regrown->aJ,heap_alloc_new->a7,results_cell_row->kM,run_convert_bytes_back->xh,setRow_heap->aV,wpList_store_row->bK,wpQuiet_nil->e6,wp_region_quiet_below->fI
open Go.Calls renaming quiet_of_same->pc,regrown_of->fU
open Go.Ending renaming returned->aq
open Go.IntKind renaming i64->R,u64->ah,u8->aM
open Go.Lib renaming size_eq->dy
open Go.Proofs.Tryz renaming prog->ae
open Go.Value renaming agg->aw,bool->aH,int->I,slice->ak,string->ad,tuple->az
open List renaming drop_eq_nil_of_le->sD,getElem?_cons_succ->c7,getElem?_cons_zero->cT,getElem?_toArray->cK,length_append->cl,length_cons->fh,mem_of_getElem?->iy,take_of_length_le->li
open Nat renaming le_refl->aA,mod_eq_of_lt->jg
open Option renaming none->ab,some->U
open UInt8 renaming ofNat->bB
namespace Go.Proofs.YtefdakbahplnbaaGreatDoor
open Go.RowKit
def anI:W8:=[48,49,50,51,52,53,54,55,56,57,97,98,99,100,101,102]
def oS(k:Nat):Int:=if 48<=k/\k<=57 then(k:Int)-48 else if 97<=k/\k<=102 then(k:Int)-87 else-1
theorem anx:∀k:Fin 256,Lib.indexByte anI (bB k.val)=oS k.val:=by decide+kernel
theorem O3(k:Nat)(h:k<256):oS k=match oL (bB k)with|U x=>(x:Int)|ab=>-1:=by
 have z:(bB k).toNat=k:=by rw[UInt8.toNat_ofNat',jg (show k<2^8 from h)]
 unfold oS oL;rw[z];by_cases q:48<=k/\k<=57;.rw[if_pos q,if_pos q];show(k:Int)-48=((k-48:Nat):Int);omega
 .rw[if_neg q,if_neg q];by_cases h2:97<=k/\k<=102;.rw[if_pos h2,if_pos h2];show(k:Int)-87=((k-87:Nat):Int);omega
  .rw[if_neg h2,if_neg h2]
theorem J1{c:UInt8}{x:Nat}(h:oL c=U x):x<16:=by
 unfold oL at h;repeat' split at h
 all_goals first|cases h|skip
 all_goals omega
theorem WU(k:Nat)(h:k<256)(w:ac):ap ae 136 #[ad ⟨#[48,49,50,51,52,53,54,55,56,57,97,98,99,100,101,102]⟩,I aM k] w fun e w'=>e=aq (I R (oS k))/\w'=w:=by refine(Tryz.strings_IndexByte ⟨#[48,49,50,51,52,53,54,55,56,57,97,98,99,100,101,102]⟩ k w).mono fun e w'⟨he,hw⟩=>⟨?_,hw⟩;rw[he];exact congrArg (fun x=>aq (I R x)) (anx ⟨k,h⟩)
theorem am7:∀x al:Fin 16,bits .or R (((x.val:Nat):Int)*16) ((al.val:Nat):Int)=((16*x.val+al.val:Nat):Int):=by decide+kernel
def ic(l:W8):List ag:=l.map fun x=>I aM (x.toNat:Int)
theorem L8(a b:W8):ic (a++b)=ic a++ic b:=List.map_append
theorem TE{c:Nat}(h:c<256):(#[I aM c]:Array ag).toList=ic [bB c]:=by unfold ic;simp[jg (show c<2^8 from h)]
theorem V6:∃i,ae.info? 5=U i/\i.zero=U (I aM 0)/\i.size=1/\i.bytes=1:=by
 have hz:(ae.info? 5).map (·.zero)=U (U (I aM 0)):=by kernel_rfl
 have F:(ae.info? 5).map (·.size)=U 1:=by kernel_rfl
 have hb:(ae.info? 5).map (·.bytes)=U 1:=by kernel_rfl
 cases N:ae.info? 5 with
  |none=>rw[N]at F;simp at F
  |some i=>rw[N]at hz F hb;simp at hz F hb;exact⟨i,J,hz,F,hb⟩
theorem aaj{a_:Array Oper}{rest:List Oper}{o:Oper}{a:Act}{w:ac}{aE:Exit->Act->ac->Prop}(de:o.guard=ab)(s x:Operand)(ho:o.op= .call {callee:= .builtin .append,args:=#[s,x],argTypes:=#[134,134]})(base:Nat)(v:ag)(l:W8)(F:a.eval s=v)(cE:w.ownsRow base 5 1 v l.length (ic l))(g:Nat)(B:W8)(GM:Array ag)(hx:a.eval x=ak (U ⟨g,0,ab⟩) B.length B.length)(hg:w.heap[g]?=U (.cells GM 5 (0,0)))(N:GM.toList=ic B)(u:l.length<=10000000)(B0:B.length<=1000)(pE:base<=w.heap.size)(h:∀v' w',w'.ownsRow base 5 1 v' (l++B).length (ic (l++B))->w.grownBy w' v.ownBlock->wpList ae a_ aE rest (a.put o.dst v') w'):wpList ae a_ aE (o::rest) a w:=by
 obtain⟨i,hi,hz,cP,lb⟩:=V6;refine wpList_append_own (P:=ae) w de s x 134 ho base 5 i _ 1 1 underlying134 hi hz cP lb J (by decide) v l.length (ic l) F cE ⟨g,0,ab⟩ B.length B.length (ic B) hx (by unfold ic;rw[List.length_map,Nat.mul_one]) ?_ ?_ (by simp only[maxLen];omega) (by omega) pE ?_
 .intro j ay hu;have sv:(⟨g,0,ab⟩:Addr).add j=⟨g,j,ab⟩:=by unfold Addr.add;split<;>simp_all
  rw[sv,cell_of_row w g j _ _ _ hg,<-hu,<-N,Array.getElem?_toList]
 .intro ay hu;unfold ic at hu;rw[List.mem_map]at hu;obtain⟨al,_,rfl⟩:=hu;rfl
 .intro v' w' q h2 _;rw[<-L8,<-cl]at q;exact h v' w' q h2
theorem GQ{W:ac}{base:Nat}{v:ag}{l:W8}(h:W.ownsRow base 5 1 v l.length (ic l)):(convert 134 9 v).run ae W= .ok (ad (bs l)) W:=by
 by_cases u:0<l.length;.obtain⟨g,cap,rfl⟩:=Go.Joins.ownsRow_form h u;exact xh (P:=ae) W 134 9 5 ⟨g,0,ab⟩ cap l underlying134 underlying5 underlying9 fun j hj=>h.cells (g:=g) J j _ (by unfold ic;rw[List.getElem?_map,List.getElem?_eq_getElem hj];rfl)
 .obtain rfl:l=[]:=List.length_eq_zero_iff.1 (by omega);rcases h.2 with⟨rfl,_⟩|⟨g,cap,co,rfl,_⟩;.rw[run_convert_bytes_string W 134 9 5 ab 0 0 underlying134 underlying5 underlying9];rfl
  .exact xh (P:=ae) W 134 9 5 ⟨g,0,ab⟩ cap [] underlying134 underlying5 underlying9 fun j hj=>absurd hj (Nat.not_lt_zero _)
theorem TG:∀(l:W8),l.length%2=1->iG l=ab|[],h=>by cases h|[_],_=>J|a::b::r,h=>by have L:=TG r (by simp only[fh]at h;omega);unfold iG;rw[L];split<;>simp_all
theorem WB(a b:UInt8)(r:W8):iG (a::b::r)=match oL a,oL b,iG r with|U x,U al,U l=>U (bB (16*x+al)::l)|_,_,_=>ab:=rfl
theorem Nv{a b:UInt8}(r:W8)(h:oL a=ab\/oL b=ab):iG (a::b::r)=ab:=by
 rw[WB];split;.rcases h with h|h<;>simp_all
 .rfl
theorem Ur{a b:UInt8}(r dM:W8){x al:Nat}(ha:oL a=U x)(hb:oL b=U al):(iG (a::b::r)).map (dM++·)=(iG r).map (dM++[bB (16*x+al)]++·):=by
 rw[WB,ha,hb];cases iG r with
  |none=>rfl
  |some l=>simp
theorem aoJ(s:ByteArray)(j:Nat)(h:2*j+1<s.size):s.data.toList.drop (2*j)=bB (an s (2*j))::bB (an s (2*j+1))::s.data.toList.drop (2*(j+1)):=by rw[AI s (2*j) (by omega),AI s (2*j+1) h];rfl
set_option maxHeartbeats 2000000 in set_option maxRecDepth 20000 in theorem ahK(B:ByteArray)(N:B.size<=400)(w:ac):ap ae 95 #[ad B] w fun e w'=>e=aq (az #[ad (bs ((iG B.data.toList).getD [])),aH (iG B.data.toList).isSome])/\Below w.heap.size w w':=by
 obtain⟨bd,hR⟩:=af (iG B.data.toList);rw[<-hR];have Hd:Int.tmod (B.size:Int) 2=((B.size%2:Nat):Int):=J;by_cases ho:B.size%2=1
 .have m1:Int.tmod (B.size:Int) 2=1:=by omega
  obtain rfl:bd=ab:=hR.trans (TG _ (by rw[<-dy];exact ho));clear Hd ho hR;go_enter func95,ntmps95;go_wp2;go_ret2;exact⟨J,Below.refl _ _⟩
 have m1:Int.tmod (B.size:Int) 2=0:=by omega
 have m2:Int.tdiv (B.size:Int) 2=((B.size/2:Nat):Int):=J;have gD:=aa (show B.size%2=0 by omega);have HR:=aa hR;clear Hd ho hR;go_enter func95,ntmps95;go_wp2_with(at_make;refine Bp.Uv J _ _ J (B.size/2) w.heap.size ?_ ?_ (by omega) (aA _) ?_;(.rfl);(. (simp[Act.eval]));intro v1 w1 gC bb);have dw:=aa bb;have gI:=aa (show w1.ownsRow w.heap.size 5 1 v1 0 (ic [])from gC);clear gC bb;go_loopw[4,5](fun V aL wr=>∃(i j:Nat)(dM:W8),i<=B.size/\aL=I R i/\Hid (i=2*j/\dM.length=j/\bd=(iG (B.data.toList.drop (2*j))).map (dM++·)/\wr.ownsRow w.heap.size 5 1 V dM.length (ic dM))/\Hid (RowKit.Below w.heap.size w wr))(fun _ aL _=>B.size-(intOf aL).toNat);case atStart=>exact⟨0,0,[],by omega,J,aa ⟨J,J,by rw[HR.out];simp,gI.out⟩,dw⟩
 case round=>
  obtain⟨i,j,dM,hj,rfl,HA,S⟩:=hrel;clear gI dw;by_cases am:i<B.size
  .have he:=gD.out;obtain⟨vL,jN,hR,cE⟩:=HA.out;have jM:(i:Int)<B.size:=by omega
   have m7:i+1<B.size:=by omega
   have Ap:(i:Int)+1<B.size:=by omega
   have yL:=cd B i am;have cV:=cd B (i+1) m7;have HD:=aa (aoJ B j (by omega));rw[<-vL]at HD hR;have YN:=aa vL;clear vL;have it:=S.out.size;obtain⟨x,hx⟩:=af (an B i);obtain⟨al,hy⟩:=af (an B (i+1));have hx2:x<256:=by rw[hx];exact ea _ _
   have hy2:al<256:=by rw[hy];exact ea _ _
   have HX:=WU x hx2;have HY:=WU al hy2;rw[HD.out,<-hx,<-hy]at hR;rw[<-hx]at yL;rw[<-hy]at cV;obtain⟨Tr,Qc⟩:=af (oS x);obtain⟨abm,OV⟩:=af (oS al);rw[<-Qc]at HX;rw[<-OV]at HY;have yZ:=aa (Qc.trans (O3 x hx2));have Qs:=aa (OV.trans (O3 al hy2));have bc:=aa hR;have ur:=aa cE;have HAL:=aa jN;clear hx hy hx2 hy2 HD hR he Qc OV HA cE jN HR;go_wp2_with fail;go_quiet(first|(go_at_call 136;exact pc (HX _))|(go_at_call 136;exact pc (HY _)));have lE:=aa (jq S.out nq);have rl:=aa (show(wr.drewN nq).ownsRow w.heap.size 5 1 u4 dM.length (ic dM)from ur.out);obtain⟨E',Fm⟩:=af (wr.drewN nq);rw[<-Fm]at lE rl⊢;clear Fm HX HY S ur yL cV;cases hx:oL (bB x)with
    |none=>
     as_aux_lemma=>
      obtain rfl:bd=ab:=by rw[bc.out,Nv _ (.inl hx)];rfl
      have q:Tr<0:=by have:=yZ.out;rw[hx]at this;simp only at this;omega
      go_wp2;go_ret2;exact⟨J,lE.out⟩
    |some a=>
     have ha:Tr=a:=by have:=yZ.out;rw[hx]at this;exact this
     have AK:=J1 hx;cases hy:oL (bB al)with
      |none=>
       as_aux_lemma=>
        obtain rfl:bd=ab:=by rw[bc.out,Nv _ (.inr hy)];rfl
        have q:abm<0:=by have:=Qs.out;rw[hy]at this;simp only at this;omega
        have h2:¬Tr<0:=by omega
        go_wp2;go_ret2;exact⟨J,lE.out⟩
      |some b=>
       as_aux_lemma=>
        have hb:abm=b:=by have:=Qs.out;rw[hy]at this;exact this
        have dB:=J1 hy;have p7:=aa (bc.out.trans (Ur _ dM hx hy));have SI:=am7 ⟨a,AK⟩ ⟨b,dB⟩;simp only at SI;obtain⟨c,H⟩:=af (16*a+b);rw[<-H]at SI p7;have lw:c<256:=by omega
        subst ha hb;have q:¬(a:Int)<0:=by omega
        have h2:¬(b:Int)<0:=by omega
        have it:=lE.out.size;have jN:=HAL.out;have P7:dM.length<=400:=by have:=YN.out;omega
        clear bc yZ Qs hx hy H;go_wp2_with(at_builtin;(refine aaj J _ _ J w.heap.size u4 dM ?_ ?_ E'.heap.size [bB c] #[I aM c] ?_ ?_ ?_ ?_ ?_ ?_ ?_);(.rfl);(.exact rl.out.alloc _);(.rfl);(.exact a7 _ _);(.rw[TE lw]);(.omega);(.simp);(.simp;omega);intro v2 w2 dA hg2);have l4:=aa ((lE.out.alloc it _).grown hg2 (by simp;omega) fun k z=>(rl.out.lt k z).1);have xW:=aa dA;clear hg2 dA;go_round;case rel=>exact⟨i+2,j+1,dM++[bB c],by omega,by go_num,aa ⟨by have:=YN.out;omega,by rw[cl,jN];rfl,p7.out,xW.out⟩,l4⟩
        case measure=>simp[intOf];omega
  .as_aux_lemma=>
    have jM:¬(i:Int)<B.size:=by omega
    obtain⟨vL,jN,hR,cE⟩:=HA.out;have j0:=GQ cE;obtain rfl:bd=U dM:=by rw[hR,sD (by rw[<-dy];omega)];simp[iG]
    clear HA hR cE;go_wp2;go_ret2;exact⟨J,S.out⟩
theorem Qg{k:Nat}{aI:Int}(hz:aI=k)(h:k<16):(⟨#[48,49,50,51,52,53,54,55,56,57,97,98,99,100,101,102]⟩:ByteArray)[aI.toNat]'(by show aI.toNat<16;omega)=tu k:=by
 have:∀k:Fin 16,(⟨#[48,49,50,51,52,53,54,55,56,57,97,98,99,100,101,102]⟩:ByteArray)[k.val]'k.isLt=tu k.val:=by decide+kernel
 subst hz;exact this ⟨k,h⟩
theorem Yp(s:ByteArray)(i:Nat)(h:i<s.size):iH (s.data.toList.take (i+1))=iH (s.data.toList.take i)++[tu (an s i/16),tu (an s i%16)]:=by rw[Mk s i h];unfold iH;simp[jg (show an s i<2^8 from ea s i)]
theorem Gf(l:W8):(iH l).length=2*l.length:=by
 unfold iH;induction l with
  |nil=>rfl
  |cons a r ih=>simp only[List.flatMap_cons,cl,fh,List.length_nil,ih];omega
set_option maxHeartbeats 2000000 in set_option maxRecDepth 20000 in theorem ak3(B:ByteArray)(N:B.size<=1000)(w:ac):ap ae 196 #[ad B] w fun e w'=>e=aq (ad (bs (iH B.data.toList)))/\Below w.heap.size w w':=by
 obtain⟨bd,hR⟩:=af (iH B.data.toList);rw[<-hR];have HR:=aa hR;clear hR;obtain⟨eq,d8,dh,dD,dz⟩:=V6;go_enter func196,ntmps196;go_wp2_with(at_make;refine Bp.Uv J _ _ J (2*B.size) w.heap.size ?_ ?_ (by omega) (aA _) ?_;(.rfl);(. (simp[Act.eval]));intro v1 w1 gC bb);have dw:=aa bb;have gI:=aa (show w1.ownsRow w.heap.size 5 1 v1 0 (ic [])from gC);clear gC bb;go_loopw[3,11](fun V aL wr=>∃i:Nat,i<=B.size/\aL=I R i/\Hid (wr.ownsRow w.heap.size 5 1 V (iH (B.data.toList.take i)).length (ic (iH (B.data.toList.take i))))/\Hid (Below w.heap.size w wr))(fun _ aL _=>B.size-(intOf aL).toNat);case atStart=>exact⟨0,by omega,J,gI,dw⟩
 case round=>
  obtain⟨i,hi,rfl,HO,S⟩:=hrel;clear gI dw;by_cases am:i<B.size
  .have hl:(i:Int)<B.size:=by omega
   have yL:=cd B i am;have HT:=aa (Yp B i am);have it:=S.out.size;have l6:(iH (B.data.toList.take i)).length<=2000:=by rw[Gf,List.length_take,<-dy];omega
   obtain⟨x,hx⟩:=af (an B i);have hx2:x<256:=by rw[hx];exact ea _ _
   rw[<-hx]at yL HT;obtain⟨T,hT⟩:=af (iH (B.data.toList.take i));rw[<-hT]at HT HO l6;have ts:bits .and aM (x:Int) 15=((x%16:Nat):Int):=by rw[show(15:Int)=((15:Nat):Int)from J,u8_and_nat x 15 hx2 (by omega)];exact congrArg _ (Nat.and_two_pow_sub_one_eq_mod x 4)
   clear hx hT;have e1:=Qg (k:=x/16) (aI:=(x:Int)/16) (by omega) (by omega);have e2:=Qg (k:=x%16) (aI:=(x:Int)%16) (by omega) (by omega);obtain⟨c1,hC⟩:=af (tu (x/16));obtain⟨c2,lw⟩:=af (tu (x%16));rw[<-hC]at e1 HT;rw[<-lw]at e2 HT;clear hC lw;go_wp2_with fail;go_region_held3(fun _=>True)(trivial)((refine step_append_lies _ (by rfl) _ _ _ (by rfl) w.heap.size 5 eq _ 1 1 underlying134 d8 dh dD dz J (by omega) u3 T.length (ic T) (by rfl) ((HO.out.alloc _).drew) ⟨wr.heap.size,0,ab⟩ 2 2 (ic [c1,c2]) (by rfl) (by rfl) (World.news_of_block (cs:=#[I aM c1.toNat,I aM c2.toNat]) (t:=5) (fr:=(0,0)) (by first|exact a7 wr _|(rw[e1,e2];exact a7 wr _))) (by simp[ic,Value.oneCell']) (by omega) (by simp only[maxLen];omega) (by omega) (by simp;omega) (wr.heap.size+1) (by simp) ?_;intro gg bS w2 du bU bE d6));all_goals
    have df:=aa (show Below w.heap.size w w2 from(((S.out.alloc it _).drew).grown bU (by simp;omega) fun k z=>(HO.out.lt k z).1));have eC:=aa (show w2.ownsRow w.heap.size 5 1 (ak (U ⟨gg,0,ab⟩) (T.length+2) bS) (T++[c1,c2]).length (ic (T++[c1,c2]))by rw[L8,cl];exact du);rw[<-HT.out]at eC;clear du bU bE d6;go_wp2;go_round;case rel=>exact⟨i+1,by omega,by go_num,eC,df⟩
    case measure=>simp[intOf];omega
  .as_aux_lemma=>
    have hl:¬(i:Int)<B.size:=by omega
    have j0:=GQ HO.out;rw[li (by rw[<-dy];omega),<-HR.out]at j0;clear HO;go_wp2;go_ret;exact⟨J,S.out⟩
end Go.Proofs.YtefdakbahplnbaaGreatDoor
namespace Go.Proofs.YtefdakbahplnbaaGreatDoor
open Go.RowKit Go.Sort
set_option maxHeartbeats 2000000 in theorem acT(c:CD)(H:jJ c)(x:Nat)(hx:x<18446744073709551616)(w:ac):ap ae 78 #[e9 c,I ah x] w fun e w'=>e=aq (aH (py c x))/\Below w.heap.size w w':=by
 obtain⟨a6,op,v,m,g,⟨ip,b,lo,hi⟩⟩:=c;have ts:bits .and ah (x:Int) (m:Int)=((x&&&m:Nat):Int):=u64_and_nat x m hx H.m;clear H;obtain⟨al,hy⟩:∃al:Nat,al=x&&&m:=⟨_,J⟩;rw[<-hy]at ts;have HY:=aa hy;clear hy;unfold e9;simp only;go_enter func78,ntmps78;go_wp2;all_goals go_ret;refine⟨gm ?_,ai _ _⟩
 all_goals clear ts;first|(simp_all[py];done)|(rw[fs];simp_all[py];done)|(rw[fs];simp_all[py];omega)|(have:=HY.out;rw[fs];simp_all[py];omega)
theorem aj_{c:CD}(h:nM c):mC c=!decide (7<c.op):=by
 cases h with
  |wF a k v ha q h6 hv=>unfold mC fA;simp only;rw[if_neg (by omega),if_neg (by omega),show decide ((7:Int)<k)=false by simp;omega];rfl
  |wX=>rfl
  |v_=>rfl
  |dr=>rfl
theorem aeJ{α:Type}{f:α->Bool}{l:List α}{i:Nat}{c:α}(h:l.take (i+1)=l.take i++[c]):(l.take (i+1)).any f=((l.take i).any f||f c):=by rw[h,List.any_append];simp
theorem T8{α:Type}{f:α->Bool}{l:List α}{i:Nat}{c:α}(h:l.take (i+1)=l.take i++[c]):(l.take (i+1)).all f=((l.take i).all f&&f c):=by rw[h,List.all_append];simp
set_option maxHeartbeats 4000000 in theorem aaM(r:RL)(h:uU r)(oa:Option Addr)(cap:Nat)(k:KL)(z:hc k)(w:ac)(H:jV oa r.bq w):ap ae 45 #[lW r oa cap,cR k] w fun e w'=>e=aq (az #[aH (mJ r k),aH (nx r)])/\Below w.heap.size w w':=by
 obtain⟨n,u⟩:=af r.bq.length;have G:=aa (Bi H n u);have h4:n<=4:=by have:=h.qO;omega
 have qL:=aa h.bq;have HL:=aa (show∀i,i<n->∃c,r.bq[i]?=U c/\r.bq.take (i+1)=r.bq.take i++[c]from fun i h=>uD (by omega));obtain⟨m,hm⟩:∃m:Nat,r.nr=m:=⟨r.nr.toNat,by have:=h.yR;omega⟩;have HZ:=aa (show mJ r k=(decide ((k.nr:Int)=r.nr)&&r.bq.all (tJ k))from J);have Ot:=aa (show nx r=r.bq.any (fun c=>!mC c)from J);obtain⟨aI,hz⟩:=af (mJ r k);obtain⟨uB,qE⟩:=af (nx r);rw[<-hz]at HZ⊢;rw[<-qE]at Ot⊢;have hm8:m<=8:=by have:=h.zL;omega
 clear H hz qE h;obtain⟨nr,cs,⟨aN,aP⟩⟩:=r;unfold lW cR bX;simp only at G HL HZ Ot qL u hm⊢;subst hm;rw[<-u];have HN:=aa u;clear u;obtain⟨V,hV,hB,hx,hy⟩:=qZ w #[I R m,ak oa n cap,I R aN,I R aP] (bX k) 54 68;have HY:=aa hy;have k0:=hx 0;have k1:=hx 1;have kn:=hy 1;simp only[bX,cK,cT,c7]at k0 k1 kn;clear hx hy;unfold bX at hV;have Q1:=aa (XA k);have Hg:=aa (fun i=>Fe z i);have c8:k.nr<4294967296:=z.nr;obtain⟨dv,Jh⟩:=af k.ej;obtain⟨knr,Bv⟩:=af k.nr;obtain⟨kb0,G3⟩:=af k.a0;obtain⟨kb1,GV⟩:=af k.bR;obtain⟨kb2,Hj⟩:=af k.a2;obtain⟨kb3,IT⟩:=af k.a3;rw[<-Jh,<-Bv,<-G3,<-GV,<-Hj,<-IT]at hV⊢;rw[<-Bv]at kn HZ c8;obtain⟨f0,dn⟩:=af ((m:Int)==(knr:Int));have nE:=aa (show decide ((knr:Int)=m)=f0 by rw[dn,fs];simp;omega);rw[nE.out]at HZ;replace dn:=dn.symm;clear Jh Bv G3 GV Hj IT z;go_enter func45,ntmps45;go_wp2;rw[<-hV];clear hV;go_loopw[6,7,8](fun d5 Kf aL w'=>∃(i:Nat)(f d:Bool),i<=n/\d5=aH f/\Kf=aH d/\aL=I R i/\Hid (f=(f0&&(cs.take i).all (tJ k)))/\Hid (d=(cs.take i).any (fun c=>!mC c))/\Hid (Below V.heap.size V w'))(fun _ _ aL _=>n-(intOf aL).toNat);case atStart=>exact⟨0,f0,false,by omega,J,J,J,aa (by simp),aa (by simp),aa (Below.refl _ _)⟩
 case round=>
  obtain⟨i,f,d,hi,rfl,rfl,rfl,HF,HD,S⟩:=hrel;have HW:=aa (ax hB S.out);have g1:=ao S.out k1;clear dn;by_cases am:i<n
  .obtain⟨c,cH,fF⟩:=HL.out i am;obtain⟨b,off,rfl,ds,HA⟩:=G.out (by omega);have hA:=(HA.out i c cH).au fun j=>(kL HW.out).1 b j ds;have mR:=qL.out c (iy cH);have vw:=aj_ mR;have HQ:=aa (T8 (f:=tJ k) fF);have BZ:=aa (aeJ (f:=fun c=>!mC c) fF);have bh:=hA.ok;obtain⟨a,pT,A'⟩:=K_ mR;obtain⟨x,f'⟩:=af (fk k a);have tb:x<18446744073709551616:=by rw[f'];exact Hg.out a
   have xR:=(HY.out (2+a)).trans (Q1.out a A');rw[<-f']at xR;have HH:=fun w=>acT c bh x tb w;have oq:=aa (show tJ k c=(!mC c||py c x)by unfold tJ;rw[pT,Int.toNat_natCast,f']);obtain⟨hl,Aq⟩:=af (py c x);rw[<-Aq]at HH oq;rw[oq.out]at HQ;simp only[vw]at HQ BZ;obtain⟨p0,p1,p2,p3,wz,vY,vR,vX,w8,_⟩:=hA;clear cH fF f' tb Aq bh oq mR vw;obtain⟨a6,op,v,mm,gl,⟨ip,cV,lo,hh⟩⟩:=c;unfold e9 at HH;simp only at p0 p1 p2 p3 wz vY vR vX w8 HH pT HQ BZ;subst pT;have i1:(0:Int)<=a:=by omega
   have i2:(a:Int)<4:=by omega
   by_cases h7:7<op
   .have d7:decide ((7:Int)<op)=true:=by simpa using h7
    rw[d7]at HQ BZ;clear HH xR;go_wp2;go_round;case rel=>exact⟨i+1,f,true,by omega,J,J,by go_num,aa (by rw[HQ.out,HF.out];simp),aa (by rw[BZ.out];simp),aa (ax S.out (ai _ _))⟩
    case measure=>simp[intOf];omega
   .have d7:decide ((7:Int)<op)=false:=by simpa using h7
    rw[d7]at HQ BZ;cases f with
     |false=>
      clear HH xR;go_wp2;go_round;case rel=>exact⟨i+1,false,d,by omega,J,J,by go_num,aa (by rw[HQ.out,<-N_,<-HF.out];rfl),aa (by rw[BZ.out,HD.out];simp),aa (ax S.out (ai _ _))⟩
      case measure=>simp[intOf];omega
     |true=>
      go_wp2_with fail;obtain⟨W1,dU,lm,_,gu⟩:=eN wr #[I R a,I R op,I ah v,I ah mm,ad gl,I .u32 ip,I R cV,I R lo,I R hh] 129;rw[<-dU];clear dU;have g0:=aJ (gu 0);have g1':=aJ (gu 1);have g2:=aJ (gu 2);have g3:=aJ (gu 3);have g4:=aJ (gu 4);have oK:=aJ (gu 5);have oP:=aJ (gu 6);have kU:=aJ (gu 7);have n7:=aJ (gu 8);have anq:=aJ (ao (ax S.out lm) xR);have Co:∀d os,ap ae 78 #[aw #[I R a,I R op,I ah v,I ah mm,ad gl,I .u32 ip,I R cV,I R lo,I R hh],I ah x] (grow (redrawn W1 d) os) fun e bF=>e=aq (aH hl)/\∃p:Regrown,bF=grow (redrawn W1 p.d) p.os:=fun d os=>fU (HH _);clear gu p0 p1 p2 p3 wz vY vR vX w8 HH xR;refine fI (by kernel_rfl) (by kernel_rfl) ?_;repeat(go_big_quiet_step((go_at_call 78;exact Co _ _)))
      refine e6 ?_;intro _ bT;obtain⟨⟨dq,bJ⟩,bY⟩:=bT;subst bY;go_wp2;go_round;case rel=>exact⟨i+1,hl,d,by omega,J,J,by go_num,aa (by rw[HQ.out,<-N_,<-HF.out];rfl),aa (by rw[BZ.out,HD.out];simp),aa (ax (ax S.out lm) (cN _ _ _))⟩
      case measure=>simp[intOf];omega
  .obtain rfl:i=n:=by omega
   rw[li (by rw[HN.out];exact aA _)]at HF HD;have gp:=aa (show f=aI by rw[HF.out,HZ.out]);have GA:=aa (show d=uB by rw[HD.out,Ot.out]);go_wp2;go_ret2;exact⟨by rw[gp.out,GA.out];rfl,HW.out⟩
set_option maxHeartbeats 2000000 in set_option maxRecDepth 100000 in theorem Vd(p:bj)(bh:l3 p)(oa:Option Addr)(cap:Nat)(k:KL)(z:hc k)(w:ac)(hp:fc oa cap p w):ap ae 27 #[ep p oa cap,cR k] w fun e w'=>e=aq (sZ (eA p k))/\Below w.heap.size w w':=by
 obtain⟨n,u⟩:=af p.bw.length;obtain⟨V,hV,hB,jt,hx,hy,hz⟩:=Qo w #[ak oa p.bw.length cap,I R p.bg.aF,I R p.bg.aU] (bX k) #[I R 0,I R 0,I R 0] 32 68 95;have G:=aa (zg hp n u);have qj:=aa bh.bw;have eL:n<=12:=by have:=bh.qO;omega
 have gN:=fun r L oa cap X H=>aaM r L oa cap k z X H;clear hp bh z;unfold bX at hV hy;obtain⟨rs,⟨aN,aP⟩⟩:=p;have HL:=aa (show∀i,i<n->∃c,rs[i]?=U c/\rs.drop i=c::rs.drop (i+1)from fun i h=>N0 (by simp only at u;omega));unfold ep cR bX at*;simp only at*;rw[<-u]at hV hx⊢;have HN:=aa u;clear u;obtain⟨dv,kn,b_,b1,b2,b3⟩:=k;simp only at*;have x0:=hx 0;have x1:=hx 1;have x2:=hx 2;have y0:=hy 0;have y1:=hy 1;have y2:=hy 2;have y3:=hy 3;have y4:=hy 4;have y5:=hy 5;simp only[cK,cT,c7]at x0 x1 x2 y0 y1 y2 y3 y4 y5;clear hx hy;by_cases ha:dv=3221225534
 .have HJ:=aa (show eA ⟨rs,⟨aN,aP⟩⟩ ⟨dv,kn,b_,b1,b2,b3⟩=fN ⟨dv,kn,b_,b1,b2,b3⟩ ⟨aN,aP⟩ rs 0 from if_pos ha);have mx:(dv:Int)=3221225534:=by omega
  rw[mx]at hV y0⊢;have ln:=aa mx;clear ha mx;go_enter func27,ntmps27;go_wp2;rw[<-hV];clear hV;go_loopw[5](fun aL w'=>∃i:Nat,i<=n/\aL=I R i/\Hid (fN ⟨dv,kn,b_,b1,b2,b3⟩ ⟨aN,aP⟩ rs 0=fN ⟨dv,kn,b_,b1,b2,b3⟩ ⟨aN,aP⟩ (rs.drop i) i)/\Hid (Below V.heap.size V w'))(fun aL _=>n-(intOf aL).toNat);case atStart=>exact⟨0,by omega,J,aa J,aa (Below.refl _ _)⟩
  case round=>
   obtain⟨i,hi,rfl,HG,S⟩:=hrel;have HW:=aa (ax hB S.out);have vo:w.heap.size+2<V.heap.size:=by omega
   have g0:=ao S.out x0;by_cases am:i<n
   .obtain⟨c,cH,q9⟩:=HL.out i am;obtain⟨b,off,rfl,ds,HA⟩:=G.out (by omega);obtain⟨dj,cc,cZ⟩:=HA.out i c cH;have hR:=cZ.au ds HW.out;clear cZ;have pu:=qj.out c (iy cH);have c4:=gN c pu dj cc;have kQ:=aa hR.bq;have cL:=aa (show fN ⟨dv,kn,b_,b1,b2,b3⟩ ⟨aN,aP⟩ rs 0=if mJ c ⟨dv,kn,b_,b1,b2,b3⟩then(if nx c then(⟨4,0⟩,i)else(c.dO,0))else fN ⟨dv,kn,b_,b1,b2,b3⟩ ⟨aN,aP⟩ (rs.drop (i+1)) (i+1)by rw[HG.out,q9,fN]);obtain⟨uP,rP⟩:=af (mJ c ⟨dv,kn,b_,b1,b2,b3⟩);obtain⟨uB,qE⟩:=af (nx c);rw[<-rP,<-qE]at c4 cL;obtain⟨p0,p1,p2,p3,_,_,_,_⟩:=hR;clear rP qE pu cH q9 HG;obtain⟨nr,cs,⟨rk,re⟩⟩:=c;unfold lW at c4;simp only at p0 p1 p2 p3 c4 cL kQ;simp only[ln.out]at c4;have z0:=ao S.out y0;have z1:=ao S.out y1;have z2:=ao S.out y2;have z3:=ao S.out y3;have z4:=ao S.out y4;have z5:=ao S.out y5;have Hi:=aJ g0;have S5:=aJ p0;have P1:=aJ p1;have P2:=aJ p2;have P3:=aJ p3;have Z0:=aJ z0;have Z1:=aJ z1;have Z2:=aJ z2;have Z3:=aJ z3;have Z4:=aJ z4;have Z5:=aJ z5;have kk:∀d os,ap ae 45 #[aw #[I R nr,ak dj cs.length cc,I R rk,I R re],aw #[I .u32 3221225534,I .u32 kn,I ah b_,I ah b1,I ah b2,I ah b3]] (grow (redrawn wr d) os) fun e bF=>e=aq (az #[aH uP,aH uB])/\∃p:Regrown,bF=grow (redrawn wr p.d) p.os:=fun d os=>fU (c4 _ (kQ.out.au (cN wr d os)));have i1:(0:Int)<=i:=by omega
    go_wp2_with fail;clear z0 z1 z2 z3 z4 z5;refine fI (by kernel_rfl) (by kernel_rfl) ?_;repeat(go_big_quiet_step((go_at_call 45;exact kk _ _)))
    refine e6 ?_;intro _ bT;obtain⟨⟨dq,bJ⟩,bY⟩:=bT;subst bY;have lE:=aa (ax S.out (cN wr dq bJ));have dg:(grow (redrawn wr dq) bJ).heap[w.heap.size+2]?=U (.cells #[I R 0,I R 0,I R 0] 95 (0,0)):=(lE.out.block _ vo).trans hz;have q2:=P2 dq bJ;have q3:=P3 dq bJ;have q0:=Hi dq bJ;clear Hi S5 P1 P2 P3 Z0 Z1 Z2 Z3 Z4 Z5 kk p0 p1 p2 p3 g0;obtain⟨Y,hY⟩:=af (grow (redrawn wr dq) bJ);rw[<-hY]at lE dg q2 q3 q0⊢;clear hY;have hbY:=lE.out.size;cases uP with
     |false=>
      rw[if_neg (by decide)]at cL;go_wp2;go_round;case rel=>exact⟨i+1,by omega,by go_num,cL,lE⟩
      case measure=>simp[intOf];omega
     |true=>
      rw[if_pos J]at cL;cases uB with
       |true=>rw[if_pos J]at cL;go_wp2_with(refine bK J 95 _ _ J (w.heap.size+2) (fV ⟨4,0⟩ i) J J 95 _ dg qB J (xY _ _) ?_);refine ba (v:=aw (fV ⟨4,0⟩ i)) (kM J _ _ (w.heap.size+2) 95 (fV ⟨4,0⟩ i) (0,0) _ J (aV _ _ _ _ _ _ dg) underlying95 J qB) J ⟨?_,below_setRow (ax hB lE.out) (by omega) _⟩;rw[HJ.out,cL.out];rfl
       |false=>rw[if_neg (by decide)]at cL;go_wp2_with(refine bK J 95 _ _ J (w.heap.size+2) (fV ⟨rk,re⟩ 0) J J 95 _ dg qB J (xY _ _) ?_);refine ba (v:=aw (fV ⟨rk,re⟩ 0)) (kM J _ _ (w.heap.size+2) 95 (fV ⟨rk,re⟩ 0) (0,0) _ J (aV _ _ _ _ _ _ dg) underlying95 J qB) J ⟨?_,below_setRow (ax hB lE.out) (by omega) _⟩;rw[HJ.out,cL.out];rfl
   .obtain rfl:i=n:=by omega
    have cL:=aa (show fN ⟨dv,kn,b_,b1,b2,b3⟩ ⟨aN,aP⟩ rs 0=(⟨aN,aP⟩,0)by rw[HG.out,sD (by rw[HN.out];exact aA _),fN]);have g1:=ao S.out x1;have g2:=ao S.out x2;have dg:wr.heap[w.heap.size+2]?=U (.cells #[I R 0,I R 0,I R 0] 95 (0,0)):=(S.out.block _ vo).trans hz;go_wp2_with(refine bK J 95 _ _ J (w.heap.size+2) (fV ⟨aN,aP⟩ 0) J J 95 _ dg qB J (xY _ _) ?_);refine ba (v:=aw (fV ⟨aN,aP⟩ 0)) (kM J _ _ (w.heap.size+2) 95 (fV ⟨aN,aP⟩ 0) (0,0) _ J (aV _ _ _ _ _ _ dg) underlying95 J qB) J ⟨?_,below_setRow HW.out (by omega) _⟩;rw[HJ.out,cL.out];rfl
 .have HJ:=aa (show eA ⟨rs,⟨aN,aP⟩⟩ ⟨dv,kn,b_,b1,b2,b3⟩=(⟨3,0⟩,0)from if_neg ha);have mx:¬(dv:Int)=3221225534:=by omega
  clear ha;go_enter func27,ntmps27;have wT:=hz;rw[hV]at wT;go_wp2_with(refine bK J 95 _ _ J (w.heap.size+2) (fV ⟨3,0⟩ 0) J J 95 _ wT qB J (xY _ _) ?_);rw[hV]at hB;refine ba (v:=aw (fV ⟨3,0⟩ 0)) (kM J _ _ (w.heap.size+2) 95 (fV ⟨3,0⟩ 0) (0,0) _ J (aV _ _ _ _ _ _ wT) underlying95 J qB) J ⟨?_,below_setRow hB (by omega) _⟩;rw[HJ.out];rfl
end Go.Proofs.YtefdakbahplnbaaGreatDoor
