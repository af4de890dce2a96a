/- The document's text of a net. -/
import Derived.Test.YtefdakbahplnbaaGreatDoorK10
open Go.Proofs.Tryz
open Array renaming getElem?_eq_some_iff->bM
open ByteArray renaming data_append->FK,ext->za,mk->acA,size->qi,size_append->ml
open Go renaming Calls->ap,World->ac,bodyPost_ret->ba,cell_of_row->aT,cell_regrown->aJ,heap_alloc_new->a7,setCell_eq_setRow->cJ,setRow_heap->aV
open Go.Ending renaming returned->aq
open Go.Instr renaming index->sG
open Go.IntKind renaming i64->R,u32->aj,u64->ah,u8->aM,wrap_u64->jQ
open Go.Lib renaming decDigits->aQ,decDigits_length->tN,size_eq->dy,toList_data->tR
open Go.Proofs.Tryz renaming prog->ae
open Go.RowKit.Below renaming refl->aS,trans->T3
open Go.Value renaming agg->aw,bool->aH,iface->b8,int->I,string->ad,tuple->az
open List renaming getD_eq_getElem?_getD->cI,getElem?_eq_getElem->cq,length_append->cl,mem_append->jC,mem_singleton->jB
open Nat renaming le_refl->aA,lt_or_ge->FN
open Option renaming bind_some->y9,none->ab,some->U
open UInt8 renaming ofNat->bB,toNat_ofNat'->mT
namespace Go.Proofs.YtefdakbahplnbaaGreatDoor
open Go.RowKit Go.Sort
theorem anv(x:Nat)(hx:x<4294967296):bits .and ah (x:Int) 255=((x%256:Nat):Int):=by rw[show(255:Int)=((255:Nat):Int)from J,u64_and_nat x 255 (by omega) (by decide)];exact congrArg _ (Nat.and_two_pow_sub_one_eq_mod x 8)
def BX(w:ac)(ip:Nat)(b lo hi:Int)(V:ac):Prop:=Below w.heap.size w V/\V.heap[w.heap.size]?=U (.cells #[I aj ip,I R b,I R lo,I R hi] 127 (0,0))
theorem BX.start(w:ac)(ip:Nat)(b lo hi:Int):BX w ip b lo hi (w.alloc (.cells #[I aj ip,I R b,I R lo,I R hi] 127)):=⟨(aS _ _).alloc (aA _) _,a7 w _⟩
theorem BX.au{w:ac}{ip:Nat}{b lo hi:Int}{V Y:ac}(h:BX w ip b lo hi V)(hb:Below V.heap.size V Y):BX w ip b lo hi Y:=⟨h.1.trans (hb.mono h.1.size),(hb.block _ (bM.1 h.2).1).trans h.2⟩
theorem BX.cells{w:ac}{ip:Nat}{b lo hi:Int}{V:ac}(h:BX w ip b lo hi V):V.cell? ⟨w.heap.size,0,ab⟩=U (I aj ip)/\V.cell? ⟨w.heap.size,1,ab⟩=U (I R b)/\V.cell? ⟨w.heap.size,2,ab⟩=U (I R lo)/\V.cell? ⟨w.heap.size,3,ab⟩=U (I R hi):=⟨aT _ _ 0 _ _ _ h.2,aT _ _ 1 _ _ _ h.2,aT _ _ 2 _ _ _ h.2,aT _ _ 3 _ _ _ h.2⟩
def Cm(Q:List Nat):Nat->List UInt8|0=>[]|k+1=>ns Q k
theorem afe(ip k:Nat)(bt:ip<4294967296):bits .and ah (ah.wrap ((ip:Int)/2^(24-8*k))) 255=((fS ip k:Nat):Int):=by
 have e:((ip:Int)/2^(24-8*k))=((ip/2^(24-8*k):Nat):Int):=by simp
 have q:ip/2^(24-8*k)<=ip:=Nat.div_le_self _ _;rw[e];unfold fS;generalize ip/2^(24-8*k)=al at q;rw[jQ,show(al:Int)%18446744073709551616=al by omega,anv _ (by omega)]
theorem adx(ip b lo hi k:Nat)(bt:ip<4294967296)(z:k<4):fS ip k=(gx ip b lo hi).getD k 0:=by rw[<-XD ip b lo hi bt];match k,z with|0,_=>rfl|1,_=>rfl|2,_=>rfl|3,_=>rfl
theorem als(j:Nat)(hj:j<3):eZ.getD j 0=46:=by match j,hj with|0,_=>rfl|1,_=>rfl|2,_=>rfl
theorem afJ{ip b lo hi:Nat}(M:cf ip b lo hi=0)(bt:ip<4294967296)(k:Nat):(gx ip b lo hi).getD k 0<100000:=by obtain⟨q,h2,_⟩:=rM M;exact C7 (fun n u=>by simp only[gx,List.mem_cons,List.not_mem_nil,or_false]at u;omega) k
theorem Pl{ip b lo hi:Nat}(M:cf ip b lo hi=0)(bt:ip<4294967296)(k:Nat)(z:k<=4):(acA (Cm (gx ip b lo hi) k).toArray).size<=6*k:=by match k,z with|0,_=>exact aA _|k+1,z=>have:=GG (gx ip b lo hi) J (afJ M bt) k (by omega);show(ns _ k).toArray.size<=_;rw[List.size_toArray];exact this
theorem O8(V:ac)(n:Nat)(u:n<100000):∃d:ByteArray,Hid (d=⟨(aQ n).toArray⟩)/\d.size<=5/\∀B os,ap ae 28 #[I ah n] (grow (redrawn V B) os) fun e bF=>e=aq (ad d)/\∃p:Regrown,bF=grow (redrawn V p.d) p.os:=by refine⟨_,aa J,?_,fun B os=>Calls.regrown_of (JE n (by omega) _)⟩;have:=BE n u;rw[<-tN]at this;simpa[qi]using this
theorem ahk(ip:Nat)(bt:ip<4294967296)(b lo hi:Nat)(M:cf ip b lo hi=0)(w:ac):ap ae 109 #[oQ ip b lo hi] w fun e w'=>e=aq (ad ⟨(mW ip b lo hi).toArray⟩)/\Below w.heap.size w w':=by
 have HS:=aa (BX.start w ip b lo hi);have HF:=aa M;clear M;go_enter func109,ntmps109;go_wp2;go_loopw[3,4](fun s i w'=>∃(k:Nat)(t:ByteArray),k<=4/\i=I R k/\s=ad t/\t.size<=100/\Hid (t=⟨(Cm (gx ip b lo hi) k).toArray⟩)/\Hid (BX w ip b lo hi w'))(fun _ i _=>4-(intOf i).toNat);case atStart=>exact⟨0,⟨#[]⟩,by omega,J,J,by decide,aa J,HS⟩
 case round=>
  obtain⟨k,t,z,rfl,rfl,ht,HT,S⟩:=hrel;obtain⟨c0,c1,c2,c3⟩:=S.out.cells;by_cases am:k<4
  .have PE:=afe ip k bt;have ld:=O9 ip k;obtain⟨n,u⟩:=af (fS ip k);rw[<-u]at PE ld;obtain⟨fK,nj⟩:∃d:ByteArray,d=⟨(aQ n).toArray⟩:=⟨_,J⟩;have ldk:fK.size<=5:=by have:=BE n (by omega);rw[<-tN]at this;rw[nj];simpa[qi]using this
   have HD:∀V,ap ae 28 #[I ah n] V fun e w'=>e=aq (ad fK)/\Below V.heap.size V w':=fun V=>(JE n (by omega) V).mono fun e w' h=>by rw[<-nj]at h;exact h
   have HN:=aa (show n=(gx ip b lo hi).getD k 0 by rw[u];exact adx ip b lo hi k bt am);have Fn:=aa nj;clear u nj;by_cases hz:0<k
   .go_wp2_with(go_at_call 28;refine(HD _).mono ?_;rintro e V⟨rfl,hV⟩);go_round;case rel=>
     refine⟨k+1,_,by omega,by go_num,J,?_,aa ?_,aa (S.out.au hV)⟩
     .rw[ml,ml];have h3:(acA #[46]).size=1:=J;have h4:t.size<=6*k:=by rw[HT.out];exact Pl HF.out bt k z
      omega
     .rw[HT.out,Fn.out,HN.out];obtain⟨j,rfl⟩:∃j,k=j+1:=⟨k-1,by omega⟩;apply za;rw[show Cm (gx ip b lo hi) (j+1+1)=ns (gx ip b lo hi) (j+1)from J,Eu _ J j (by omega),show Cm (gx ip b lo hi) (j+1)=ns (gx ip b lo hi) j from J,show eZ.getD j 0=46 from als j (by omega)];simp[FK]
    case measure=>simp[intOf];omega
   .obtain rfl:k=0:=by omega
    have l9:bits .and ah ((ip:Int)/16777216) 255=(n:Int):=by
     have h2:ah.wrap ((ip:Int)/16777216)=(ip:Int)/16777216:=by rw[jQ];omega
     rw[<-h2];simpa using PE
    clear PE;go_wp2_with(go_at_call 28;refine(HD _).mono ?_;rintro e V⟨rfl,hV⟩);go_round;case rel=>
     refine⟨1,_,by omega,by go_num,J,?_,aa ?_,aa (S.out.au hV)⟩
     .rw[ml];have h4:t.size<=6*0:=by rw[HT.out];exact Pl HF.out bt 0 z
      omega
     .rw[HT.out,Fn.out,HN.out];apply za;rw[show Cm (gx ip b lo hi) 1=ns (gx ip b lo hi) 0 from J,RZ _ J];simp[FK,Cm]
    case measure=>simp[intOf]
  .obtain rfl:k=4:=by omega
   have h4:t.size<=6*4:=by rw[HT.out];exact Pl HF.out bt 4 z
   obtain⟨q1,q2,_⟩:=rM HF.out;have U4:ah.wrap (b:Int)=b:=by rw[jQ];omega
   have wl:ah.wrap (lo:Int)=lo:=by rw[jQ];omega
   have DD:ah.wrap (hi:Int)=hi:=by rw[jQ];omega
   obtain⟨Dw,HDB,ajs,ai6⟩:=O8 wr b (by omega);obtain⟨JW,HDL,amy,zr⟩:=O8 wr lo (by omega);obtain⟨Ub,HDH,aos,Co⟩:=O8 wr hi (by omega);have z1:¬9223372036854775807<t.size+1:=by omega
   have z2:¬9223372036854775807<t.size+1+Dw.size:=by omega
   have z3:¬9223372036854775807<t.size+1+Dw.size+1:=by omega
   have z4:¬9223372036854775807<t.size+1+Dw.size+1+JW.size:=by omega
   have z5:¬9223372036854775807<t.size+1+Dw.size+1+JW.size+1:=by omega
   have z6:¬9223372036854775807<t.size+1+Dw.size+1+JW.size+1+Ub.size:=by omega
   have g1:=aJ c1;have g2:=aJ c2;have g3:=aJ c3;clear h4 q1 q2 ajs amy aos ht;go_wp2;refine wp_region_quiet_below (by kernel_rfl) (by kernel_rfl) ?_;repeat(go_big_quiet_step(first|(go_at_call_of 28(I ah (b:Int));exact ai6 _ _)|(go_at_call_of 28(I ah (lo:Int));exact zr _ _)|(go_at_call_of 28(I ah (hi:Int));exact Co _ _)))
   refine wpQuiet_nil ?_;intro _ bT;obtain⟨⟨dq,bJ⟩,bY⟩:=bT;subst bY;go_wp2;go_ret;refine⟨?_,(S.out.au (below_regrown _ _ _)).1⟩;rw[<-RI J,Eu _ J 5 (by omega),Eu _ J 4 (by omega),Eu _ J 3 (by omega)];show aq (ad (t++⟨#[47]⟩++Dw++⟨#[58]⟩++JW++⟨#[45]⟩++Ub))=_;rw[HT.out,HDB.out,HDL.out,HDH.out];congr 2;apply za;simp[FK,Cm,eZ,gx]
def O4:Option (Nat×Nat×Nat×Nat)->Value|ab=>az #[oQ 0 0 0 0,aH false]|U (ip,b,lo,hi)=>az #[oQ ip b lo hi,aH true]
def FX(w:ac)(Q:List Nat)(V:ac):Prop:=Below w.heap.size w V/\V.heap[w.heap.size]?=U (.cells (lN 0 0 0 0) 127 (0,0))/\V.heap[w.heap.size+1]?=U (.cells (dc Q) 199 (0,0))
theorem FX.start(w:ac):FX w [] ((w.alloc (.cells (lN 0 0 0 0) 127)).alloc (.cells (dc []) 199)):=⟨((aS _ _).alloc (aA _) _).alloc (by simp) _,heap_alloc2_old _ _ _,heap_alloc2_new _ _ _⟩
theorem FX.au{w V Y:ac}{Q:List Nat}(h:FX w Q V)(hb:Below V.heap.size V Y):FX w Q Y:=⟨h.1.trans (hb.mono h.1.size),(hb.block _ (bM.1 h.2.1).1).trans h.2.1,(hb.block _ (bM.1 h.2.2).1).trans h.2.2⟩
theorem FX.set{w V:ac}{Q:List Nat}(h:FX w Q V)(k x:Nat)(z:Q.length=k)(h7:k<7):FX w (Q++[x]) (V.setCell ⟨w.heap.size+1,k,ab⟩ (I R x)):=by rw[cJ _ _ k _ _ _ _ h.2.2,Vg Q x k z h7];exact⟨below_setRow h.1 (by omega) _,(setRow_other _ _ _ _ (by omega)).trans h.2.1,aV _ _ _ _ _ _ h.2.2⟩
theorem FX.cell{w V:ac}{Q:List Nat}(h:FX w Q V)(k:Nat)(h7:k<7):V.cell? ⟨w.heap.size+1,k,ab⟩=U (I R (Q.getD k 0)):=by rw[aT _ _ k _ _ _ h.2.2,EC Q k h7]
theorem FX.b5{w V:ac}{Q:List Nat}(h:FX w Q V)(k:Nat):V.frozen? ⟨w.heap.size+1,k,ab⟩=false:=frozen_of_row _ _ k _ _ h.2.2
def et(l:List UInt8)(f i:Nat):List UInt8:=(l.drop f).take (i-f)
theorem JS(l:List UInt8)(i:Nat):et l i i=[]:=by unfold et;simp
theorem Ya(s:ByteArray)(f i:Nat)(M:f<=i)(hi:i<s.size):et s.data.toList f (i+1)=et s.data.toList f i++[bB (an s i)]:=by
 unfold et;have Ak:i<s.data.toList.length:=by rw[<-dy];exact hi
 rw[show i+1-f=(i-f)+1 by omega,List.take_add_one,List.getElem?_drop,show f+(i-f)=i by omega,cq Ak];unfold an;rw[cI,cq Ak];simp
theorem AI(s:ByteArray)(i:Nat)(hi:i<s.size):s.data.toList.drop i=bB (an s i)::s.data.toList.drop (i+1):=by
 have Ak:i<s.data.toList.length:=by rw[<-dy];exact hi
 rw[List.drop_eq_getElem_cons Ak];unfold an;rw[cI,cq Ak];simp
theorem Se(s:ByteArray):s.data.toList.drop s.size=[]:=List.drop_eq_nil_of_le (by rw[<-dy];exact aA _)
theorem R0(s:ByteArray)(f i:Nat):(s.extract f i).data.toList=et s.data.toList f i:=Lib.extract_data s f i
def tv(s:ByteArray)(k f i:Nat)(Q:List Nat):Prop:=(i<=s.size/\f<=i/\lI [] s.data.toList 0=(lI (et s.data.toList f i) (s.data.toList.drop i) k).map fun r=>Q++r)\/(i=s.size+1/\lI [] s.data.toList 0=U Q)
theorem tv.start(s:ByteArray):tv s 0 0 0 []:=Or.inl ⟨Nat.zero_le _,aA _,by rw[JS,List.drop_zero];simp⟩
theorem tv.aje{s:ByteArray}{k f i:Nat}{Q:List Nat}(h:tv s k f i Q)(hi:i<s.size)(hd:48<=an s i/\an s i<=57):tv s k f (i+1) Q:=by
 rcases h with⟨_,h2,h3⟩|⟨q,_⟩;.refine Or.inl ⟨by omega,by omega,?_⟩;rw[h3,AI s i hi,lI,if_pos,Ya s f i h2 hi];rw[CR _ (ea s i)];simp[hd.1,hd.2]
 .omega
theorem tv.VZ{s:ByteArray}{k f i:Nat}{Q:List Nat}(h:tv s k f i Q)(hi:i<=s.size)(hd:i<s.size->¬(48<=an s i/\an s i<=57))(hb:wZ (et s.data.toList f i)=ab\/6<k):lI [] s.data.toList 0=ab:=by
 rcases h with⟨_,h2,h3⟩|⟨q,_⟩
 .rw[h3];by_cases am:i<s.size
  .rw[AI s i am,lI,if_neg (by rw[CR _ (ea s i)];intro h;simp at h;exact hd am h)];rcases hb with hb|hb;.rw[hb];rfl
   .cases N:wZ (et s.data.toList f i)with
     |none=>rfl
     |some x=>rw[y9,if_neg (by omega)];rfl
  .rw[show i=s.size by omega,Se,lI,<-show i=s.size by omega];rcases hb with hb|hb;.rw[hb];rfl
   .cases N:wZ (et s.data.toList f i)with
     |none=>rfl
     |some x=>rw[y9,if_neg (by omega)];rfl
 .omega
theorem tv.aa3{s:ByteArray}{k f i x:Nat}{Q:List Nat}(h:tv s k f i Q)(hi:i<=s.size)(hd:i<s.size->¬(48<=an s i/\an s i<=57))(hx:wZ (et s.data.toList f i)=U x)(z:k<=6):tv s (k+1) (i+1) (i+1) (Q++[x]):=by
 rcases h with⟨_,h2,h3⟩|⟨q,_⟩
 .by_cases am:i<s.size;.refine Or.inl ⟨by omega,aA _,?_⟩;rw[h3,AI s i am,lI,if_neg (by rw[CR _ (ea s i)];intro h;simp at h;exact hd am h),hx,y9,if_pos z,Option.map_map,JS];congr 1;funext r;simp
  .refine Or.inr ⟨by omega,?_⟩;rw[h3,show s.data.toList.drop i=[]by rw[show i=s.size by omega];exact Se s,lI,hx,y9,if_pos z];rfl
 .omega
theorem R4{w wr V:ac}{Q:List Nat}{ip e f g:Nat}(h:Hid (FX w Q wr))(hb:Below (wr.alloc (.cells (lN ip e f g) 127)).heap.size (wr.alloc (.cells (lN ip e f g) 127)) V):Hid (FX w Q V)/\V.heap[wr.heap.size]?=U (.cells (lN ip e f g) 127 (0,0)):=⟨aa ((h.out.au ((aS _ _).alloc (aA _) _)).au hb),(hb.block _ (by simp)).trans (a7 _ _)⟩
set_option maxHeartbeats 2000000 in theorem aj7(s:ByteArray)(F:s.size<=9000)(w:ac):ap ae 75 #[ad s] w fun e w'=>e=aq (O4 (ca s.data.toList))/\Below w.heap.size w w':=by
 go_enter func75,ntmps75;go_wp2;go_loopw[5,6,7](fun K d5 aL w'=>∃(k f i:Nat)(Q:List Nat),k<=7/\f<=i/\i<=s.size+1/\K=I R k/\d5=I R f/\aL=I R i/\Q.length=k/\Hid (∀n∈Q,n<=70000)/\Hid (tv s k f i Q)/\Hid (FX w Q w'))(fun _ _ aL _=>s.size+1-(intOf aL).toNat);case atStart=>exact⟨0,0,0,[],by omega,by omega,by omega,J,J,J,J,aa (fun _ h=>by cases h),aa (tv.start s),aa (FX.start w)⟩
 case round=>
  obtain⟨k,f,i,Q,z,hfi,hi,rfl,rfl,rfl,cY,HM,HS,HF⟩:=hrel;by_cases eR:i<=s.size
  .by_cases sO:i<s.size/\48<=an s i/\an s i<=57
   .obtain⟨am,sO⟩:=sO;have dC:=aa (HS.out.aje am sO);have Sa:=cd s i am;go_wp2;go_round;case rel=>exact⟨k,f,i+1,Q,z,by omega,by omega,J,J,by go_num,cY,HM,dC,HF⟩
    case measure=>simp[intOf];omega
   .have JA:=aa (show i<s.size->¬(48<=an s i/\an s i<=57)from fun h h2=>sO ⟨h,h2.1,h2.2⟩);by_cases am:i<s.size
    .have Sa:=cd s i am;have Et:=JA.out am;clear sO;have G:∀V,ap ae 19 #[ad (s.extract f i)] V fun e w'=>e=aq (oh (et s.data.toList f i))/\Below V.heap.size V w':=fun V=>(tz (s.extract f i) (by simp;omega) V).mono fun e w' h=>by rw[R0]at h;exact h
     have lx:=aa (show oh (et s.data.toList f i)=az #[I ah (bW (et s.data.toList f i)),aH (cz (et s.data.toList f i))]from J);have BJ:=aa (show wZ (et s.data.toList f i)=if cz (et s.data.toList f i)=true/\bW (et s.data.toList f i)<=70000 then U (bW (et s.data.toList f i))else ab from J);obtain⟨bu,hN⟩:=af (bW (et s.data.toList f i));obtain⟨ok,bh⟩:=af (cz (et s.data.toList f i));rw[<-hN,<-bh]at lx BJ;rw[lx.out]at G;clear hN bh lx;by_cases eT:ok=true/\bu<=70000/\k<=6
     .obtain⟨rfl,yo,Gj⟩:=eT;have dC:=aa (HS.out.aa3 eR JA.out (by rw[BJ.out,if_pos ⟨J,yo⟩]) Gj);have GT:=aa (show∀n∈Q++[bu],n<=70000 from fun n u=>by
       rcases jC.1 u with h|h;.exact HM.out n h
       .rw[jB.1 h];exact yo);go_wp2_with(go_at_call 19;refine(G _).mono ?_;rintro e V⟨rfl,hV⟩;have HV:=aa (HF.out.au hV);clear hV;have ai_:=HV.out.cell k (by omega);have rj:=HV.out.b5 k);all_goals
       go_round;case rel=>exact⟨k+1,i+1,i+1,Q++[bu],by omega,by omega,by omega,by go_num,by go_num,by go_num,by rw[cl,cY];rfl,GT,dC,aa (HV.out.set k bu cY (by omega))⟩
       case measure=>simp[intOf]<;>omega
     .have HP:=aa (show ca s.data.toList=ab from Dx fun ip b lo hi h=>by
       have q:=Ls h;rw[HS.out.VZ eR JA.out (by
        rw[BJ.out];by_cases h6:6<k;.exact Or.inr h6
        .refine Or.inl (if_neg fun h=>eT ⟨h.1,h.2,by omega⟩))]at q;cases q);cases ok with
       |false=>clear eT;go_wp2_with(first|(go_at_call 19;refine(G _).mono ?_;rintro e V⟨rfl,hV⟩;have HV:=aa (HF.out.au hV);clear hV;obtain⟨r1,r2,r3⟩:=nU HV.out.2.1;obtain⟨r4,r5,r6⟩:=nW HV.out.2.1)|(refine ba (nG J _ _ w.heap.size 0 0 0 0 (aH false) J J (aV _ _ _ _ _ _ HV.out.2.1)) J ⟨?_,?_⟩;(.rw[HP.out];rfl);(.exact below_setRow HV.out.1 (aA _) _)))
       |true=>
        by_cases yo:bu<=70000
        .have h6:6<k:=by
          rcases FN 6 k with h|h;.exact h
          .exact absurd ⟨J,yo,h⟩ eT
         clear eT;go_wp2_with(first|(go_at_call 19;refine(G _).mono ?_;rintro e V⟨rfl,hV⟩;have HV:=aa (HF.out.au hV);clear hV;obtain⟨r1,r2,r3⟩:=nU HV.out.2.1;obtain⟨r4,r5,r6⟩:=nW HV.out.2.1)|(refine ba (nG J _ _ w.heap.size 0 0 0 0 (aH false) J J (aV _ _ _ _ _ _ HV.out.2.1)) J ⟨?_,?_⟩;(.rw[HP.out];rfl);(.exact below_setRow HV.out.1 (aA _) _)))
        .clear eT;go_wp2_with(first|(go_at_call 19;refine(G _).mono ?_;rintro e V⟨rfl,hV⟩;have HV:=aa (HF.out.au hV);clear hV;obtain⟨r1,r2,r3⟩:=nU HV.out.2.1;obtain⟨r4,r5,r6⟩:=nW HV.out.2.1)|(refine ba (nG J _ _ w.heap.size 0 0 0 0 (aH false) J J (aV _ _ _ _ _ _ HV.out.2.1)) J ⟨?_,?_⟩;(.rw[HP.out];rfl);(.exact below_setRow HV.out.1 (aA _) _)))
    .obtain rfl:i=s.size:=by omega
     clear sO;have G:∀V,ap ae 19 #[ad (s.extract f s.size)] V fun e w'=>e=aq (oh (et s.data.toList f s.size))/\Below V.heap.size V w':=fun V=>(tz (s.extract f s.size) (by simp;omega) V).mono fun e w' h=>by rw[R0]at h;exact h
     have lx:=aa (show oh (et s.data.toList f s.size)=az #[I ah (bW (et s.data.toList f s.size)),aH (cz (et s.data.toList f s.size))]from J);have BJ:=aa (show wZ (et s.data.toList f s.size)=if cz (et s.data.toList f s.size)=true/\bW (et s.data.toList f s.size)<=70000 then U (bW (et s.data.toList f s.size))else ab from J);obtain⟨bu,hN⟩:=af (bW (et s.data.toList f s.size));obtain⟨ok,bh⟩:=af (cz (et s.data.toList f s.size));rw[<-hN,<-bh]at lx BJ;rw[lx.out]at G;clear hN bh lx;by_cases eT:ok=true/\bu<=70000/\k<=6
     .obtain⟨rfl,yo,Gj⟩:=eT;have dC:=aa (HS.out.aa3 eR JA.out (by rw[BJ.out,if_pos ⟨J,yo⟩]) Gj);have GT:=aa (show∀n∈Q++[bu],n<=70000 from fun n u=>by
       rcases jC.1 u with h|h;.exact HM.out n h
       .rw[jB.1 h];exact yo);go_wp2_with(go_at_call 19;refine(G _).mono ?_;rintro e V⟨rfl,hV⟩;have HV:=aa (HF.out.au hV);clear hV;have ai_:=HV.out.cell k (by omega);have rj:=HV.out.b5 k);all_goals
       go_round;case rel=>exact⟨k+1,s.size+1,s.size+1,Q++[bu],by omega,by omega,by omega,by go_num,by go_num,by go_num,by rw[cl,cY];rfl,GT,dC,aa (HV.out.set k bu cY (by omega))⟩
       case measure=>simp[intOf]<;>omega
     .have HP:=aa (show ca s.data.toList=ab from Dx fun ip b lo hi h=>by
       have q:=Ls h;rw[HS.out.VZ eR JA.out (by
        rw[BJ.out];by_cases h6:6<k;.exact Or.inr h6
        .refine Or.inl (if_neg fun h=>eT ⟨h.1,h.2,by omega⟩))]at q;cases q);cases ok with
       |false=>clear eT;go_wp2_with(first|(go_at_call 19;refine(G _).mono ?_;rintro e V⟨rfl,hV⟩;have HV:=aa (HF.out.au hV);clear hV;obtain⟨r1,r2,r3⟩:=nU HV.out.2.1;obtain⟨r4,r5,r6⟩:=nW HV.out.2.1)|(refine ba (nG J _ _ w.heap.size 0 0 0 0 (aH false) J J (aV _ _ _ _ _ _ HV.out.2.1)) J ⟨?_,?_⟩;(.rw[HP.out];rfl);(.exact below_setRow HV.out.1 (aA _) _)))
       |true=>
        by_cases yo:bu<=70000
        .have h6:6<k:=by
          rcases FN 6 k with h|h;.exact h
          .exact absurd ⟨J,yo,h⟩ eT
         clear eT;go_wp2_with(first|(go_at_call 19;refine(G _).mono ?_;rintro e V⟨rfl,hV⟩;have HV:=aa (HF.out.au hV);clear hV;obtain⟨r1,r2,r3⟩:=nU HV.out.2.1;obtain⟨r4,r5,r6⟩:=nW HV.out.2.1)|(refine ba (nG J _ _ w.heap.size 0 0 0 0 (aH false) J J (aV _ _ _ _ _ _ HV.out.2.1)) J ⟨?_,?_⟩;(.rw[HP.out];rfl);(.exact below_setRow HV.out.1 (aA _) _)))
        .clear eT;go_wp2_with(first|(go_at_call 19;refine(G _).mono ?_;rintro e V⟨rfl,hV⟩;have HV:=aa (HF.out.au hV);clear hV;obtain⟨r1,r2,r3⟩:=nU HV.out.2.1;obtain⟨r4,r5,r6⟩:=nW HV.out.2.1)|(refine ba (nG J _ _ w.heap.size 0 0 0 0 (aH false) J J (aV _ _ _ _ _ _ HV.out.2.1)) J ⟨?_,?_⟩;(.rw[HP.out];rfl);(.exact below_setRow HV.out.1 (aA _) _)))
  .obtain rfl:i=s.size+1:=by omega
   have cX:lI [] s.data.toList 0=U Q:=by
    rcases HS.out with⟨h,_,_⟩|⟨_,h⟩;.omega
    .exact h
   have F4:=aa cX;clear cX HS;obtain⟨r1,r2,r3⟩:=nU HF.out.2.1;obtain⟨r4,r5,r6⟩:=nW HF.out.2.1;by_cases h7:k<7;.have HP:=aa (show ca s.data.toList=ab from Dx fun ip b lo hi h=>by have q:=Ls h;rw[F4.out]at q;rw[Option.some.inj q]at cY;exact absurd cY (by show 7≠k;omega));go_wp2_with(refine ba (nG J _ _ w.heap.size 0 0 0 0 (aH false) J J (aV _ _ _ _ _ _ HF.out.2.1)) J ⟨?_,?_⟩;(.rw[HP.out];rfl);(.exact below_setRow HF.out.1 (aA _) _))
   .obtain rfl:k=7:=by omega
    obtain⟨a,b,c,d,e,jX,g,rfl⟩:=Gb cY;have n0:wr.cell? ⟨w.heap.size+1,0,ab⟩=U (I R a):=HF.out.cell 0 (by omega);have n1:wr.cell? ⟨w.heap.size+1,1,ab⟩=U (I R b):=HF.out.cell 1 (by omega);have n2:wr.cell? ⟨w.heap.size+1,2,ab⟩=U (I R c):=HF.out.cell 2 (by omega);have vM:wr.cell? ⟨w.heap.size+1,3,ab⟩=U (I R d):=HF.out.cell 3 (by omega);have om:wr.cell? ⟨w.heap.size+1,4,ab⟩=U (I R e):=HF.out.cell 4 (by omega);have rx:wr.cell? ⟨w.heap.size+1,5,ab⟩=U (I R jX):=HF.out.cell 5 (by omega);have uR:wr.cell? ⟨w.heap.size+1,6,ab⟩=U (I R g):=HF.out.cell 6 (by omega);have apV:e<=70000:=HM.out e (by simp);have apX:jX<=70000:=HM.out jX (by simp);have apn:g<=70000:=HM.out g (by simp);have HQ:=aa (show∀rS fL uS e7,ca s.data.toList=U (rS,fL,uS,e7)->[a,b,c,d,e,jX,g]=gx rS fL uS e7 from fun rS fL uS e7 h=>by have q:=Ls h;rw[F4.out]at q;exact Option.some.inj q);clear r1 r2 r3 r4 r5 r6;by_cases DJ:a<=255/\b<=255/\c<=255/\d<=255
    .obtain⟨ha,hb,H,hd⟩:=DJ;have bt:=ZP ha hb H hd;have agM:(a:Int)*16777216+(b:Int)*65536+(c:Int)*256+(d:Int)=(oj a b c d:Nat):=by unfold oj;omega
     have B7:=aa (show∀rS fL uS e7,ca s.data.toList=U (rS,fL,uS,e7)->cf (oj a b c d) e jX g=0/\mW (oj a b c d) e jX g=s.data.toList from fun rS fL uS e7 h=>by
      obtain⟨q1,q2,q3⟩:=Fi h;have q4:=HQ.out _ _ _ _ h;simp only[gx,List.cons.injEq,and_true]at q4;obtain⟨Gp,w1,w2,w3,rfl,rfl,rfl⟩:=q4;have q5:oj a b c d=rS:=by rw[Gp,w1,w2,w3];exact acf rS q1
      rw[q5];exact⟨q2,q3.symm⟩);obtain⟨ip,abs⟩:=af (oj a b c d);rw[<-abs]at bt agM B7;clear abs;by_cases M:cf ip e jX g=0
     .have HE:=aa M;obtain⟨tx,zw⟩:∃t:ByteArray,t=⟨(mW ip e jX g).toArray⟩:=⟨_,J⟩;have HT:=fun V=>ahk ip bt e jX g M V;rw[<-zw]at HT;by_cases ht:mW ip e jX g=s.data.toList
      .have HP:=aa (show ca s.data.toList=U (ip,e,jX,g)by rw[<-ht];exact QS bt M);have adT:(tx.toList==s.toList)=true:=by rw[tR,tR,zw,beq_iff_eq];exact ht
       clear zw ht M;go_wp2_with(first|(go_at_call 77;refine(Fb ip bt e jX g ⟨by omega,by omega⟩ ⟨by omega,by omega⟩ ⟨by omega,by omega⟩ _).mono ?_;rw[HE.out];rintro e V⟨rfl,hV⟩;obtain⟨HV,hx⟩:=R4 HF hV;clear hV;obtain⟨r1,r2,r3⟩:=nU HV.out.2.1;obtain⟨r4,r5,r6⟩:=nW HV.out.2.1;have x0:=aT _ _ 0 _ _ _ hx;have x1:=aT _ _ 1 _ _ _ hx;have x2:=aT _ _ 2 _ _ _ hx;have x3:=aT _ _ 3 _ _ _ hx)|(go_at_call 109;refine(HT _).mono ?_;rintro e ah'⟨rfl,r_⟩;have lK:=aa (HV.out.au r_);have hx2:=(r_.block _ (bM.1 hx).1).trans hx;clear r_;obtain⟨r1,r2,r3⟩:=nU lK.out.2.1;obtain⟨r4,r5,r6⟩:=nW lK.out.2.1;have x0:=aT _ _ 0 _ _ _ hx2;have x1:=aT _ _ 1 _ _ _ hx2;have x2:=aT _ _ 2 _ _ _ hx2;have x3:=aT _ _ 3 _ _ _ hx2)|(refine ba (nG J _ _ w.heap.size ip e jX g (aH true) J J (aV _ _ _ _ _ _ lK.out.2.1)) J ⟨?_,?_⟩;(.rw[HP.out];rfl);(.exact below_setRow lK.out.1 (aA _) _)))
      .have HP:=aa (show ca s.data.toList=ab from Dx fun _ _ _ _ h=>ht (B7.out _ _ _ _ h).2);have adT:(tx.toList==s.toList)=false:=by rw[tR,tR,zw,beq_eq_false_iff_ne];exact ht
       clear zw ht M;go_wp2_with(first|(go_at_call 77;refine(Fb ip bt e jX g ⟨by omega,by omega⟩ ⟨by omega,by omega⟩ ⟨by omega,by omega⟩ _).mono ?_;rw[HE.out];rintro e V⟨rfl,hV⟩;obtain⟨HV,hx⟩:=R4 HF hV;clear hV;obtain⟨r1,r2,r3⟩:=nU HV.out.2.1;obtain⟨r4,r5,r6⟩:=nW HV.out.2.1;have x0:=aT _ _ 0 _ _ _ hx;have x1:=aT _ _ 1 _ _ _ hx;have x2:=aT _ _ 2 _ _ _ hx;have x3:=aT _ _ 3 _ _ _ hx)|(go_at_call 109;refine(HT _).mono ?_;rintro e ah'⟨rfl,r_⟩;have lK:=aa (HV.out.au r_);have hx2:=(r_.block _ (bM.1 hx).1).trans hx;clear r_;obtain⟨r1,r2,r3⟩:=nU lK.out.2.1;obtain⟨r4,r5,r6⟩:=nW lK.out.2.1;have x0:=aT _ _ 0 _ _ _ hx2;have x1:=aT _ _ 1 _ _ _ hx2;have x2:=aT _ _ 2 _ _ _ hx2;have x3:=aT _ _ 3 _ _ _ hx2)|(refine ba (nG J _ _ w.heap.size 0 0 0 0 (aH false) J J (aV _ _ _ _ _ _ lK.out.2.1)) J ⟨?_,?_⟩;(.rw[HP.out];rfl);(.exact below_setRow lK.out.1 (aA _) _)))
     .have HP:=aa (show ca s.data.toList=ab from Dx fun _ _ _ _ h=>M (B7.out _ _ _ _ h).1);obtain⟨n,u⟩:=af (cf ip e jX g);have HE:=aa u.symm;have yb:0<n:=by omega
      clear u M;go_wp2_with(first|(go_at_call 77;refine(Fb ip bt e jX g ⟨by omega,by omega⟩ ⟨by omega,by omega⟩ ⟨by omega,by omega⟩ _).mono ?_;rw[HE.out];rintro e V⟨rfl,hV⟩;obtain⟨HV,hx⟩:=R4 HF hV;clear hV;obtain⟨r1,r2,r3⟩:=nU HV.out.2.1;obtain⟨r4,r5,r6⟩:=nW HV.out.2.1;have x0:=aT _ _ 0 _ _ _ hx;have x1:=aT _ _ 1 _ _ _ hx;have x2:=aT _ _ 2 _ _ _ hx;have x3:=aT _ _ 3 _ _ _ hx)|(refine ba (nG J _ _ w.heap.size 0 0 0 0 (aH false) J J (aV _ _ _ _ _ _ HV.out.2.1)) J ⟨?_,?_⟩;(.rw[HP.out];rfl);(.exact below_setRow HV.out.1 (aA _) _)))
    .have HP:=aa (show ca s.data.toList=ab from Dx fun rS fL uS e7 h=>by have q4:=HQ.out _ _ _ _ h;obtain⟨q1,_,_⟩:=Fi h;simp only[gx,List.cons.injEq,and_true]at q4;exact DJ (by omega));obtain⟨r1,r2,r3⟩:=nU HF.out.2.1;obtain⟨r4,r5,r6⟩:=nW HF.out.2.1;by_cases ha:a<=255
     .by_cases hb:b<=255
      .by_cases H:c<=255
       .have hd:255<d:=by omega
        clear DJ;go_wp2_with(refine ba (nG J _ _ w.heap.size 0 0 0 0 (aH false) J J (aV _ _ _ _ _ _ HF.out.2.1)) J ⟨?_,?_⟩;(.rw[HP.out];rfl);(.exact below_setRow HF.out.1 (aA _) _))
       .clear DJ;go_wp2_with(refine ba (nG J _ _ w.heap.size 0 0 0 0 (aH false) J J (aV _ _ _ _ _ _ HF.out.2.1)) J ⟨?_,?_⟩;(.rw[HP.out];rfl);(.exact below_setRow HF.out.1 (aA _) _))
      .clear DJ;go_wp2_with(refine ba (nG J _ _ w.heap.size 0 0 0 0 (aH false) J J (aV _ _ _ _ _ _ HF.out.2.1)) J ⟨?_,?_⟩;(.rw[HP.out];rfl);(.exact below_setRow HF.out.1 (aA _) _))
     .clear DJ;go_wp2_with(refine ba (nG J _ _ w.heap.size 0 0 0 0 (aH false) J J (aV _ _ _ _ _ _ HF.out.2.1)) J ⟨?_,?_⟩;(.rw[HP.out];rfl);(.exact below_setRow HF.out.1 (aA _) _))
end Go.Proofs.YtefdakbahplnbaaGreatDoor
namespace Go.Proofs.YtefdakbahplnbaaGreatDoor
open Go.RowKit
def kS(ip aB k:Nat):Array Value:=#[I aM 2,I aM 0,I aM (aB/256:Nat),I aM (aB%256:Nat),I aM (if 0<k then fS ip 0 else 0:Nat),I aM (if 1<k then fS ip 1 else 0:Nat),I aM (if 2<k then fS ip 2 else 0:Nat),I aM (if 3<k then fS ip 3 else 0:Nat),I aM 0,I aM 0,I aM 0,I aM 0,I aM 0,I aM 0,I aM 0,I aM 0]
theorem S'(ip aB k:Nat)(z:k<4):(kS ip aB k)[4+k]?=U (I aM 0):=by match k,z with|0,_=>rfl|1,_=>rfl|2,_=>rfl|3,_=>rfl
theorem Yz(ip aB k:Nat)(z:k<4):(kS ip aB k).setIfInBounds (4+k) (I aM (fS ip k:Nat))=kS ip aB (k+1):=by match k,z with|0,_=>rfl|1,_=>rfl|2,_=>rfl|3,_=>rfl
theorem alw(w:ac)(ip aB k m:Nat)(z:k<4):((w.alloc (.cells (kS ip aB k) 344)).drewN m).setCell ⟨w.heap.size,4+k,ab⟩ (I aM (fS ip k:Nat))=(w.alloc (.cells (kS ip aB (k+1)) 344)).drewN m:=by have h:((w.alloc (.cells (kS ip aB k) 344)).drewN m).heap[w.heap.size]?=U (.cells (kS ip aB k) 344 (0,0)):=a7 w _;rw[cJ _ _ (4+k) _ _ _ _ h,Yz ip aB k z];exact congrArg (World.drewN · m) (World.setRow_alloc_new w _ _ _)
attribute[local go_sem]S'
def iI(ip aB:Nat):List UInt8:=[2,0,bB (aB/256),bB (aB%256),bB (fS ip 0),bB (fS ip 1),bB (fS ip 2),bB (fS ip 3),0,0,0,0,0,0,0,0]
theorem Pw(n:Nat)(h:n<256):((bB n).toNat:Int)=n:=by rw[mT,Nat.mod_eq_of_lt h]
theorem ach(ip:Nat)(_hip:ip<4294967296)(aB:Nat)(hp:aB<=65535):kS ip aB 4=((iI ip aB).map fun b=>I aM (b.toNat:Int)).toArray:=by simp only[iI,List.map_cons,List.map_nil,Pw _ (O9 ip _),Pw (aB/256) (by omega),Pw (aB%256) (by omega)];rfl
theorem akP(w:ac)(ip:Nat)(bt:ip<4294967296)(aB:Nat)(hp:aB<=65535)(m:Nat):(convert 134 9 (.slice (U ⟨w.heap.size,0,ab⟩) 16 16)).run ae ((w.alloc (.cells (kS ip aB 4) 344)).drewN m)= .ok (ad ⟨(iI ip aB).toArray⟩) ((w.alloc (.cells (kS ip aB 4) 344)).drewN m):=by refine run_convert_bytes_back (P:=ae) _ 134 9 5 ⟨w.heap.size,0,ab⟩ 16 (iI ip aB) underlying134 underlying5 underlying9 fun j hj=>?_;have h:((w.alloc (.cells (kS ip aB 4) 344)).drewN m).heap[w.heap.size]?=U (.cells (kS ip aB 4) 344 (0,0)):=a7 w _;rw[show(⟨w.heap.size,0,ab⟩:Addr).add j=⟨w.heap.size,j,ab⟩by simp[Addr.add];omega,aT _ _ j _ _ _ h,ach ip bt aB hp];simp[hj]
theorem O0(ip:Nat)(bt:ip<4294967296)(aB:Nat)(hp:aB<=65535)(w:ac):ap ae 252 #[I aj ip,I R aB] w fun e w'=>e=aq (az #[ad ⟨(iI ip aB).toArray⟩, .nilIface])/\Below w.heap.size w w':=by
 go_enter func252,ntmps252;go_wp2;go_loopw[21](fun i w'=>∃k m:Nat,k<=4/\i=I R k/\w'=(w.alloc (.cells (kS ip aB k) 344)).drewN m)(fun i _=>4-(intOf i).toNat);case atStart=>exact⟨0,0,by omega,J,J⟩
 case round=>
  obtain⟨k,m,z,rfl,rfl⟩:=hrel;by_cases am:k<4
  .have hg:=S' ip aB k am;go_wp2_with(go_at_call 242;refine(abF ip k bt (by omega) _).mono ?_;rintro e w'⟨rfl,rfl⟩);go_round;case rel=>exact⟨k+1,m,by omega,by go_num,alw w ip aB k m am⟩
   case measure=>simp[intOf];omega
  .obtain rfl:k=4:=by omega
   have j0:=akP w ip bt aB hp m;go_wp2;go_ret2;exact⟨J,jq ((aS _ _).alloc (aA _) _) _⟩
end Go.Proofs.YtefdakbahplnbaaGreatDoor
namespace Go.Proofs.YtefdakbahplnbaaGreatDoor
open Go.RowKit
def nT(s:ByteArray):Nat:=an s 2*256+an s 3
def gR(s:ByteArray):Nat->Nat|0=>0|k+1=>gR s k*256+an s (4+k)
theorem DM(s:ByteArray):∀k,gR s k<256^k|0=>Nat.one_pos|k+1=>by have q:=DM s k;have h2:=ea s (4+k);rw[gR,Nat.pow_succ];omega
theorem anp(s:ByteArray)(k:Nat)(z:k<4):bits .or aj ((gR s k:Int)*256%4294967296) ((an s (4+k):Int)%4294967296)=((gR s (k+1):Nat):Int):=by have q:=DM s k;have h2:=ea s (4+k);have h3:gR s k<16777216:=Nat.lt_of_lt_of_le q (Nat.pow_le_pow_right (n:=256) (j:=3) (by decide) (by omega));rw[show(gR s k:Int)*256%4294967296=(gR s k:Int)*256 by omega,show(an s (4+k):Int)%4294967296=an s (4+k)by omega,ZO _ _ h3 h2];rfl
def gS(s:ByteArray):Option (Nat×Nat):=if s.size=16/\iI (gR s 4) (nT s)=s.data.toList then U (gR s 4,nT s)else ab
def Ea:Option (Nat×Nat)->Value|ab=>az #[I aj 0,I R 0,b8 43 (I R 3)]|U (ip,p)=>az #[I aj ip,I R p, .nilIface]
theorem aeQ(s:ByteArray)(w:ac):ap ae 227 #[ad s] w fun e w'=>e=aq (Ea (gS s))/\Below w.heap.size w w':=by
 by_cases F:s.size=16
 .have b2:=cd s 2 (by omega);have b3:=cd s 3 (by omega);have l2:=ea s 2;have mS:=ea s 3;have SI:=an8 (an s 2) (an s 3) l2 mS;go_enter func227,ntmps227;go_wp2;go_quiet(fail);go_wp2;go_loopw[22,6](fun i x w'=>∃k m:Nat,k<=4/\i=I R k/\x=I aj (gR s k)/\w'=w.drewN m)(fun i _ _=>4-(intOf i).toNat);case atStart=>exact⟨0,nq,by omega,J,J,J⟩
  case round=>
   obtain⟨k,m,z,rfl,rfl,rfl⟩:=hrel;by_cases am:k<4
   .have mK:=cd s (4+k) (by omega);have HQ:=aa (anp s k am);go_wp2;go_round;case rel=>exact⟨k+1,m,by omega,by go_num,by rw[HQ.out],J⟩
    case measure=>simp[intOf];omega
   .obtain rfl:k=4:=by omega
    have hp:an s 2*256+an s 3<=65535:=by omega
    have hi:gR s 4<4294967296:=DM s 4;by_cases he:iI (gR s 4) (nT s)=s.data.toList
    .have HV:=aa (show Ea (gS s)=az #[I aj (gR s 4),I R (nT s), .nilIface]by unfold gS;rw[if_pos ⟨F,he⟩];rfl);have H:(iI (gR s 4) (an s 2*256+an s 3)==s.toList)=true:=by rw[tR,beq_iff_eq];exact he
     clear he;go_wp2_with(go_at_call 252;refine(O0 (gR s 4) hi (an s 2*256+an s 3) hp _).mono ?_;rintro e W⟨rfl,hW⟩);go_ret3;exact⟨by rw[HV.out];rfl,T3 (jq (aS _ _) m) hW⟩
    .have HV:=aa (show Ea (gS s)=az #[I aj 0,I R 0,b8 43 (I R 3)]by unfold gS;rw[if_neg (fun h=>he h.2)];rfl);have H:(iI (gR s 4) (an s 2*256+an s 3)==s.toList)=false:=by rw[tR,beq_eq_false_iff_ne];exact he
     clear he;go_wp2_with(go_at_call 252;refine(O0 (gR s 4) hi (an s 2*256+an s 3) hp _).mono ?_;rintro e W⟨rfl,hW⟩);go_ret3;exact⟨by rw[HV.out];rfl,T3 (jq (aS _ _) m) hW⟩
 .have HV:=aa (show Ea (gS s)=az #[I aj 0,I R 0,b8 43 (I R 3)]by unfold gS;rw[if_neg (fun h=>F h.1)];rfl);have hb:((s.size:Int)!=16)=true:=by rw[bne_iff_ne];omega
  go_enter func227,ntmps227;go_wp2;go_ret3;exact⟨by rw[HV.out];rfl,aS _ _⟩
theorem agx(ip aB:Nat)(bt:ip<4294967296)(hp:aB<=65535):gS ⟨(iI ip aB).toArray⟩=U (ip,aB):=by
 have q:nT ⟨(iI ip aB).toArray⟩=aB:=by show(bB (aB/256)).toNat*256+(bB (aB%256)).toNat=aB;rw[mT,mT];omega
 have h2:gR ⟨(iI ip aB).toArray⟩ 4=ip:=by show(((0*256+(bB (fS ip 0)).toNat)*256+(bB (fS ip 1)).toNat)*256+(bB (fS ip 2)).toNat)*256+(bB (fS ip 3)).toNat=ip;rw[mT,mT,mT,mT];unfold fS;simp only[Nat.mod_mod];omega
 unfold gS;rw[q,h2,if_pos ⟨J,J⟩]
theorem LH(w:ac):(sG 124 (aw #[ad ⟨#[49,49]⟩,ad ⟨#[49,49]⟩,ad ⟨#[50,49,49]⟩,ad ⟨#[49]⟩,ad ⟨#[50]⟩,ad ⟨#[50,50]⟩,ad ⟨#[49,51]⟩,ad ⟨#[50,50,49]⟩,ad ⟨#[49,49,51,49]⟩]) (I R 0)).run ae w= .ok (ad ⟨#[49,49]⟩) w:=by kernel_rfl
theorem LP(w:ac):(sG 124 (aw #[ad ⟨#[49,49]⟩,ad ⟨#[49,49]⟩,ad ⟨#[50,49,49]⟩,ad ⟨#[49]⟩,ad ⟨#[50]⟩,ad ⟨#[50,50]⟩,ad ⟨#[49,51]⟩,ad ⟨#[50,50,49]⟩,ad ⟨#[49,49,51,49]⟩]) (I R 1)).run ae w= .ok (ad ⟨#[49,49]⟩) w:=by kernel_rfl
theorem JT(w:ac):(sG 124 (aw #[ad ⟨#[49,49]⟩,ad ⟨#[49,49]⟩,ad ⟨#[50,49,49]⟩,ad ⟨#[49]⟩,ad ⟨#[50]⟩,ad ⟨#[50,50]⟩,ad ⟨#[49,51]⟩,ad ⟨#[50,50,49]⟩,ad ⟨#[49,49,51,49]⟩]) (I R 2)).run ae w= .ok (ad ⟨#[50,49,49]⟩) w:=by kernel_rfl
theorem J3(w:ac):(sG 124 (aw #[ad ⟨#[49,49]⟩,ad ⟨#[49,49]⟩,ad ⟨#[50,49,49]⟩,ad ⟨#[49]⟩,ad ⟨#[50]⟩,ad ⟨#[50,50]⟩,ad ⟨#[49,51]⟩,ad ⟨#[50,50,49]⟩,ad ⟨#[49,49,51,49]⟩]) (I R 3)).run ae w= .ok (ad ⟨#[49]⟩) w:=by kernel_rfl
theorem LG(w:ac):(sG 124 (aw #[ad ⟨#[49,49]⟩,ad ⟨#[49,49]⟩,ad ⟨#[50,49,49]⟩,ad ⟨#[49]⟩,ad ⟨#[50]⟩,ad ⟨#[50,50]⟩,ad ⟨#[49,51]⟩,ad ⟨#[50,50,49]⟩,ad ⟨#[49,49,51,49]⟩]) (I R 4)).run ae w= .ok (ad ⟨#[50]⟩) w:=by kernel_rfl
theorem KD(w:ac):(sG 124 (aw #[ad ⟨#[49,49]⟩,ad ⟨#[49,49]⟩,ad ⟨#[50,49,49]⟩,ad ⟨#[49]⟩,ad ⟨#[50]⟩,ad ⟨#[50,50]⟩,ad ⟨#[49,51]⟩,ad ⟨#[50,50,49]⟩,ad ⟨#[49,49,51,49]⟩]) (I R 5)).run ae w= .ok (ad ⟨#[50,50]⟩) w:=by kernel_rfl
theorem Kw(w:ac):(sG 124 (aw #[ad ⟨#[49,49]⟩,ad ⟨#[49,49]⟩,ad ⟨#[50,49,49]⟩,ad ⟨#[49]⟩,ad ⟨#[50]⟩,ad ⟨#[50,50]⟩,ad ⟨#[49,51]⟩,ad ⟨#[50,50,49]⟩,ad ⟨#[49,49,51,49]⟩]) (I R 6)).run ae w= .ok (ad ⟨#[49,51]⟩) w:=by kernel_rfl
theorem KB(w:ac):(sG 124 (aw #[ad ⟨#[49,49]⟩,ad ⟨#[49,49]⟩,ad ⟨#[50,49,49]⟩,ad ⟨#[49]⟩,ad ⟨#[50]⟩,ad ⟨#[50,50]⟩,ad ⟨#[49,51]⟩,ad ⟨#[50,50,49]⟩,ad ⟨#[49,49,51,49]⟩]) (I R 7)).run ae w= .ok (ad ⟨#[50,50,49]⟩) w:=by kernel_rfl
theorem M'(w:ac):(sG 124 (aw #[ad ⟨#[49,49]⟩,ad ⟨#[49,49]⟩,ad ⟨#[50,49,49]⟩,ad ⟨#[49]⟩,ad ⟨#[50]⟩,ad ⟨#[50,50]⟩,ad ⟨#[49,51]⟩,ad ⟨#[50,50,49]⟩,ad ⟨#[49,49,51,49]⟩]) (I R 8)).run ae w= .ok (ad ⟨#[49,49,51,49]⟩) w:=by kernel_rfl
theorem ag0(w:ac):ap ae 47 #[I R 0,I R 0] w fun e w'=>e=aq (I R 1)/\w'=w:=by have hi:=LH;go_enter func47,ntmps47;go_wp2;go_ret;exact⟨J,J⟩
theorem anG(w:ac):ap ae 47 #[I R 0,I R 1] w fun e w'=>e=aq (I R 1)/\w'=w:=by have hi:=LH;go_enter func47,ntmps47;go_wp2;go_ret;exact⟨J,J⟩
theorem aet(w:ac):ap ae 47 #[I R 0,I R 2] w fun e w'=>e=aq (I R 0)/\w'=w:=by have hi:=LH;go_enter func47,ntmps47;go_wp2;go_ret;exact⟨J,J⟩
theorem ahm(w:ac):ap ae 47 #[I R 0,I R 3] w fun e w'=>e=aq (I R 0)/\w'=w:=by have hi:=LH;go_enter func47,ntmps47;go_wp2;go_ret;exact⟨J,J⟩
theorem ags(w:ac):ap ae 47 #[I R 1,I R 0] w fun e w'=>e=aq (I R 1)/\w'=w:=by have hi:=LP;go_enter func47,ntmps47;go_wp2;go_ret;exact⟨J,J⟩
theorem ag5(w:ac):ap ae 47 #[I R 1,I R 1] w fun e w'=>e=aq (I R 1)/\w'=w:=by have hi:=LP;go_enter func47,ntmps47;go_wp2;go_ret;exact⟨J,J⟩
theorem al1(w:ac):ap ae 47 #[I R 1,I R 2] w fun e w'=>e=aq (I R 0)/\w'=w:=by have hi:=LP;go_enter func47,ntmps47;go_wp2;go_ret;exact⟨J,J⟩
theorem afT(w:ac):ap ae 47 #[I R 1,I R 3] w fun e w'=>e=aq (I R 0)/\w'=w:=by have hi:=LP;go_enter func47,ntmps47;go_wp2;go_ret;exact⟨J,J⟩
theorem anZ(w:ac):ap ae 47 #[I R 2,I R 0] w fun e w'=>e=aq (I R 2)/\w'=w:=by have hi:=JT;go_enter func47,ntmps47;go_wp2;go_ret;exact⟨J,J⟩
theorem ame(w:ac):ap ae 47 #[I R 2,I R 1] w fun e w'=>e=aq (I R 1)/\w'=w:=by have hi:=JT;go_enter func47,ntmps47;go_wp2;go_ret;exact⟨J,J⟩
theorem alL(w:ac):ap ae 47 #[I R 2,I R 2] w fun e w'=>e=aq (I R 1)/\w'=w:=by have hi:=JT;go_enter func47,ntmps47;go_wp2;go_ret;exact⟨J,J⟩
theorem ana(w:ac):ap ae 47 #[I R 2,I R 3] w fun e w'=>e=aq (I R 0)/\w'=w:=by have hi:=JT;go_enter func47,ntmps47;go_wp2;go_ret;exact⟨J,J⟩
theorem ajS(w:ac):ap ae 47 #[I R 3,I R 0] w fun e w'=>e=aq (I R 1)/\w'=w:=by have hi:=J3;go_enter func47,ntmps47;go_wp2;go_ret;exact⟨J,J⟩
theorem agN(w:ac):ap ae 47 #[I R 3,I R 1] w fun e w'=>e=aq (I R 0)/\w'=w:=by have hi:=J3;go_enter func47,ntmps47;go_wp2;go_ret;exact⟨J,J⟩
theorem afW(w:ac):ap ae 47 #[I R 3,I R 2] w fun e w'=>e=aq (I R 0)/\w'=w:=by have hi:=J3;go_enter func47,ntmps47;go_wp2;go_ret;exact⟨J,J⟩
theorem ao3(w:ac):ap ae 47 #[I R 3,I R 3] w fun e w'=>e=aq (I R 0)/\w'=w:=by have hi:=J3;go_enter func47,ntmps47;go_wp2;go_ret;exact⟨J,J⟩
theorem agL(w:ac):ap ae 47 #[I R 4,I R 0] w fun e w'=>e=aq (I R 2)/\w'=w:=by have hi:=LG;go_enter func47,ntmps47;go_wp2;go_ret;exact⟨J,J⟩
theorem amu(w:ac):ap ae 47 #[I R 4,I R 1] w fun e w'=>e=aq (I R 0)/\w'=w:=by have hi:=LG;go_enter func47,ntmps47;go_wp2;go_ret;exact⟨J,J⟩
theorem amF(w:ac):ap ae 47 #[I R 4,I R 2] w fun e w'=>e=aq (I R 0)/\w'=w:=by have hi:=LG;go_enter func47,ntmps47;go_wp2;go_ret;exact⟨J,J⟩
theorem ahY(w:ac):ap ae 47 #[I R 4,I R 3] w fun e w'=>e=aq (I R 0)/\w'=w:=by have hi:=LG;go_enter func47,ntmps47;go_wp2;go_ret;exact⟨J,J⟩
theorem aj4(w:ac):ap ae 47 #[I R 5,I R 0] w fun e w'=>e=aq (I R 2)/\w'=w:=by have hi:=KD;go_enter func47,ntmps47;go_wp2;go_ret;exact⟨J,J⟩
theorem agz(w:ac):ap ae 47 #[I R 5,I R 1] w fun e w'=>e=aq (I R 2)/\w'=w:=by have hi:=KD;go_enter func47,ntmps47;go_wp2;go_ret;exact⟨J,J⟩
theorem alP(w:ac):ap ae 47 #[I R 5,I R 2] w fun e w'=>e=aq (I R 0)/\w'=w:=by have hi:=KD;go_enter func47,ntmps47;go_wp2;go_ret;exact⟨J,J⟩
theorem aeO(w:ac):ap ae 47 #[I R 5,I R 3] w fun e w'=>e=aq (I R 0)/\w'=w:=by have hi:=KD;go_enter func47,ntmps47;go_wp2;go_ret;exact⟨J,J⟩
theorem aot(w:ac):ap ae 47 #[I R 6,I R 0] w fun e w'=>e=aq (I R 1)/\w'=w:=by have hi:=Kw;go_enter func47,ntmps47;go_wp2;go_ret;exact⟨J,J⟩
theorem afE(w:ac):ap ae 47 #[I R 6,I R 1] w fun e w'=>e=aq (I R 3)/\w'=w:=by have hi:=Kw;go_enter func47,ntmps47;go_wp2;go_ret;exact⟨J,J⟩
theorem ahx(w:ac):ap ae 47 #[I R 6,I R 2] w fun e w'=>e=aq (I R 0)/\w'=w:=by have hi:=Kw;go_enter func47,ntmps47;go_wp2;go_ret;exact⟨J,J⟩
theorem agR(w:ac):ap ae 47 #[I R 6,I R 3] w fun e w'=>e=aq (I R 0)/\w'=w:=by have hi:=Kw;go_enter func47,ntmps47;go_wp2;go_ret;exact⟨J,J⟩
theorem ak1(w:ac):ap ae 47 #[I R 7,I R 0] w fun e w'=>e=aq (I R 2)/\w'=w:=by have hi:=KB;go_enter func47,ntmps47;go_wp2;go_ret;exact⟨J,J⟩
theorem aov(w:ac):ap ae 47 #[I R 7,I R 1] w fun e w'=>e=aq (I R 2)/\w'=w:=by have hi:=KB;go_enter func47,ntmps47;go_wp2;go_ret;exact⟨J,J⟩
theorem ant(w:ac):ap ae 47 #[I R 7,I R 2] w fun e w'=>e=aq (I R 1)/\w'=w:=by have hi:=KB;go_enter func47,ntmps47;go_wp2;go_ret;exact⟨J,J⟩
theorem aiN(w:ac):ap ae 47 #[I R 7,I R 3] w fun e w'=>e=aq (I R 0)/\w'=w:=by have hi:=KB;go_enter func47,ntmps47;go_wp2;go_ret;exact⟨J,J⟩
theorem ajX(w:ac):ap ae 47 #[I R 8,I R 0] w fun e w'=>e=aq (I R 1)/\w'=w:=by have hi:=M';go_enter func47,ntmps47;go_wp2;go_ret;exact⟨J,J⟩
theorem adv(w:ac):ap ae 47 #[I R 8,I R 1] w fun e w'=>e=aq (I R 1)/\w'=w:=by have hi:=M';go_enter func47,ntmps47;go_wp2;go_ret;exact⟨J,J⟩
theorem ad4(w:ac):ap ae 47 #[I R 8,I R 2] w fun e w'=>e=aq (I R 3)/\w'=w:=by have hi:=M';go_enter func47,ntmps47;go_wp2;go_ret;exact⟨J,J⟩
theorem alG(w:ac):ap ae 47 #[I R 8,I R 3] w fun e w'=>e=aq (I R 1)/\w'=w:=by have hi:=M';go_enter func47,ntmps47;go_wp2;go_ret;exact⟨J,J⟩
theorem wC(i k:Nat)(hi:i<9)(z:k<4)(w:ac):ap ae 47 #[I R i,I R k] w fun e w'=>e=aq (I R (a1 i k))/\w'=w:=by match i,hi,k,z with|0,_,0,_=>exact ag0 w|0,_,1,_=>exact anG w|0,_,2,_=>exact aet w|0,_,3,_=>exact ahm w|1,_,0,_=>exact ags w|1,_,1,_=>exact ag5 w|1,_,2,_=>exact al1 w|1,_,3,_=>exact afT w|2,_,0,_=>exact anZ w|2,_,1,_=>exact ame w|2,_,2,_=>exact alL w|2,_,3,_=>exact ana w|3,_,0,_=>exact ajS w|3,_,1,_=>exact agN w|3,_,2,_=>exact afW w|3,_,3,_=>exact ao3 w|4,_,0,_=>exact agL w|4,_,1,_=>exact amu w|4,_,2,_=>exact amF w|4,_,3,_=>exact ahY w|5,_,0,_=>exact aj4 w|5,_,1,_=>exact agz w|5,_,2,_=>exact alP w|5,_,3,_=>exact aeO w|6,_,0,_=>exact aot w|6,_,1,_=>exact afE w|6,_,2,_=>exact ahx w|6,_,3,_=>exact agR w|7,_,0,_=>exact ak1 w|7,_,1,_=>exact aov w|7,_,2,_=>exact ant w|7,_,3,_=>exact aiN w|8,_,0,_=>exact ajX w|8,_,1,_=>exact adv w|8,_,2,_=>exact ad4 w|8,_,3,_=>exact alG w
end Go.Proofs.YtefdakbahplnbaaGreatDoor
