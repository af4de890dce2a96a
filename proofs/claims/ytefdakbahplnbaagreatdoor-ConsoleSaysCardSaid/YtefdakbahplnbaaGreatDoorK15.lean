/- policy.Text: a cond. -/
import Derived.Test.YtefdakbahplnbaaGreatDoorK14
import Derived.Test.YtefdakbahplnbaaGreatDoorK10
import Derived.Lib.SplitLaws
import Derived.Lib.IndexBytes
open Go.Proofs.Tryz
open And renaming intro->bQ
open Array renaming getElem?_eq_some_iff->bM
open Bool renaming eq_iff_iff->fs,false_and->AS
open ByteArray renaming append_assoc->xj,data_append->FK,empty->fH,ext->za,size->qi,size_append->ml
open Go renaming Addr->bl,Calls->ap,Regrown->eh,Value->ag,World->ac,below_regrown->cN,block_lt_of_cell->oA,bodyPost_ret->ba,cell_of_row->aT,cell_regrown->aJ,frozen_of_row->cy,heap_alloc_new->a7,results_cell_row->kM,results_cell_tmp->xf,run_loadVar_row->tT,setCell_eq_setRow->cJ,setRow_heap->aV,setRow_other->CV,wpList_store_row->bK,wpQuiet_nil->e6,wp_region_quiet_below->fI
open Go.Calls renaming regrown_of->fU
open Go.Ending renaming returned->aq
open Go.IntKind renaming i64->R,u32->aj,u64->ah,wrap_i64->jP
open Go.Lib renaming countB->FD,decDigits->aQ,indexByte->kg,index_one->acx,parseUintB->tM,parseUintM->FH,size_eq->dy,splitK->acy,trimSuffix->AN
open Go.Proofs.Tryz renaming prog->ae
open Go.RowKit.Below renaming heap_setCell->mV,refl->aS
open Go.Value renaming agg->aw,bool->aH,iface->b8,int->I,oneCell'->fG,pointer->av,slice->ak,string->ad,tuple->az
open Go.World renaming cell?_alloc_new->AT,news_of_block->lS,ownsRow_nil->lj,size_alloc->bA
open List renaming all_append->AO,append_nil->ry,dropWhile_sublist->ao_,flatMap_cons->JK,getD_eq_getElem?_getD->cI,getElem?_append_left->vG,getElem?_append_right->vF,getElem?_cons_succ->c7,getElem?_cons_zero->cT,getElem?_eq_getElem->cq,getElem?_toArray->cK,length_append->cl,length_cons->fh,length_eq_zero_iff->CY,length_map->oB,length_nil->nI,length_pos_iff->AP,length_singleton->gH,length_tail->C2,map_append->mU,mem_append->jC,mem_cons->kh,mem_of_getElem?->iy,mem_singleton->jB,take_of_length_le->li,take_zero->CZ
open Nat renaming le_refl->aA,le_trans->bL,lt_of_lt_of_le->dk
open Option renaming getD_some->vE,none->ab,some->U
open Option.some renaming injEq->cm
namespace Go.Proofs.YtefdakbahplnbaaGreatDoor
open Go.RowKit Go.Sort
theorem Lj(j:Nat)(h:j<=8):(cG.getD j []).length<=2:=by rcases sf h with rfl|rfl|rfl|rfl|rfl|rfl|rfl|rfl|rfl<;>decide
theorem GF:(⟨#[32]⟩:ByteArray)=bs [32]:=rfl
theorem YA{ip b lo hi:Nat}(M:cf ip b lo hi=0)(bt:ip<4294967296):(mW ip b lo hi).length<=100:=by have tg:=rM M;have hb:∀k,(gx ip b lo hi).getD k 0<100000:=fun k=>C7 (fun n u=>by simp only[gx,kh,List.not_mem_nil,or_false]at u;omega) k;have:=GG (gx ip b lo hi) J hb 6 (by omega);rw[RI J]at this;omega
theorem anS:(⟨#[34]⟩:ByteArray)=bs [34]:=rfl
set_option maxHeartbeats 4000000 in theorem adr(a:Nat)(ha:a<=3)(j v:Nat)(hj:j<=5)(hv:v<18446744073709551616)(w:ac)(hE:EV w):ap ae 130 #[aw #[I R a,I R ((j:Int)+1),I ah v,I ah 0,ad fH,I aj 0,I R 0,I R 0,I R 0]] w fun e w'=>e=aq (ad (bs (aQ a++32::(cG.getD j []++32::aQ v))))/\Below w.heap.size w w':=by
 have HI:=fun X hX=>zz a (by omega) X hX;have hl:(aQ a).length<=20:=nDigits_le20 a (by omega);have fP:(cG.getD j []).length<=2:=Lj j (by omega);obtain⟨d,hd⟩:∃d:ByteArray,d=⟨(aQ a).toArray⟩:=⟨_,J⟩;have LO:d.size<=20:=by rw[hd];simpa[qi]using hl
 rw[<-hd]at HI;obtain⟨s,F⟩:∃d:ByteArray,d=bs (cG.getD j []):=⟨_,J⟩;have j6:s.size<=2:=by rw[F,ct];exact fP
 have mw:=fun X(hX:EV X)=>hX.uk j (by omega);rw[<-F]at mw;have IU:=fun X hX=>Qr v hv X hX;have Jn:(aQ v).length<=20:=nDigits_le20 v hv;obtain⟨al,hy⟩:∃d:ByteArray,d=⟨(aQ v).toArray⟩:=⟨_,J⟩;have hsy:al.size<=20:=by rw[hy];simpa[qi]using Jn
 rw[<-hy]at IU;have HV:=aa (show bs (aQ a++32::(cG.getD j []++32::aQ v))=d++⟨#[32]⟩++s++⟨#[32]⟩++al by rw[hd,F,hy,show(⟨(aQ a).toArray⟩:ByteArray)=bs (aQ a)from J,show(⟨(aQ v).toArray⟩:ByteArray)=bs (aQ v)from J,GF,b7,b7,b7,b7];simp);clear hd F hy Jn;obtain⟨bd,hR⟩:∃bd:ByteArray,bd=bs (aQ a++32::(cG.getD j []++32::aQ v)):=⟨_,J⟩;rw[<-hR]at HV⊢;clear hR;have HE:=aa hE;clear hE hl fP;have dF:R.wrap ((j:Int)+1-1)=j:=by rw[jP];omega
 have c_:(j:Int)+1-1=j:=by omega
 have i1:(0:Int)<=j:=by omega
 have i2:(j:Int)<9:=by omega
 have IW:¬(j:Int)+1=7:=by omega
 have BF:¬(j:Int)+1=8:=by omega
 have Gk:¬(j:Int)+1=9:=by omega
 have z1:¬9223372036854775807<d.size+1:=by omega
 have z2:¬9223372036854775807<d.size+1+s.size:=by omega
 have z3:¬9223372036854775807<d.size+1+s.size+1:=by omega
 have z4:¬9223372036854775807<d.size+1+s.size+1+al.size:=by omega
 go_enter func130,ntmps130;go_wp2;obtain⟨V,hV,hB,cP,hx⟩:=eN w #[I R a,I R ((j:Int)+1),I ah v,I ah 0,ad fH,I aj 0,I R 0,I R 0,I R 0] 129;rw[<-hV];clear hV;have S:=aa hB;have gD:=aa (HE.out.au hB);clear hB;have g0:=aJ (hx 0);have g1:=aJ (hx 1);have g2:=aJ (hx 2);have g3:=aJ (hx 3);have g4:=aJ (hx 4);have oK:=aJ (hx 5);have oP:=aJ (hx 6);have kU:=aJ (hx 7);have n7:=aJ (hx 8);have gs:=aJ (mw V gD.out);have Nx:=aJ (gD.out.uk 0 (by omega));have mz:∀d' os,ap ae 60 #[I R a] (grow (redrawn V d') os) fun e bF=>e=aq (ad d)/\∃p:eh,bF=grow (redrawn V p.d) p.os:=fun d' os=>fU (HI _ (gD.out.au (cN _ _ _)).oR);clear hx mw HI;refine fI (by kernel_rfl) (by kernel_rfl) ?_;repeat(go_big_quiet_step(first|(go_at_call 60;exact mz _ _)))
 refine e6 ?_;intro _ bT;obtain⟨⟨dq,bJ⟩,bY⟩:=bT;subst bY;go_wp2_with(go_at_call 173;refine(IU _ (gD.out.au (cN _ _ _)).oR).mono ?_;rintro e w'⟨rfl,hb⟩);go_ret;exact⟨by rw[HV.out];rfl,ax (S.out.trans ((cN V dq bJ).mono S.out.size)) hb⟩
set_option maxHeartbeats 4000000 in theorem akf(a:Nat)(ha:a<=3)(v m:Nat)(hv:v<18446744073709551616)(hm:m<18446744073709551616)(w:ac)(hE:EV w):ap ae 130 #[aw #[I R a,I R 7,I ah v,I ah m,ad fH,I aj 0,I R 0,I R 0,I R 0]] w fun e w'=>e=aq (ad (bs (aQ a++32::(cG.getD 6 []++32::(aQ m++32::([61,61]++32::aQ v))))))/\Below w.heap.size w w':=by
 have HI:=fun X hX=>zz a (by omega) X hX;have hl:(aQ a).length<=20:=nDigits_le20 a (by omega);have fP:(cG.getD 6 []).length<=2:=Lj 6 (by omega);obtain⟨d,hd⟩:∃d:ByteArray,d=⟨(aQ a).toArray⟩:=⟨_,J⟩;have LO:d.size<=20:=by rw[hd];simpa[qi]using hl
 rw[<-hd]at HI;obtain⟨s,F⟩:∃d:ByteArray,d=bs (cG.getD 6 []):=⟨_,J⟩;have j6:s.size<=2:=by rw[F,ct];exact fP
 have mw:=fun X(hX:EV X)=>hX.uk 6 (by omega);rw[<-F]at mw;have IU:=fun X hX=>Qr v hv X hX;have Jn:(aQ v).length<=20:=nDigits_le20 v hv;obtain⟨al,hy⟩:∃d:ByteArray,d=⟨(aQ v).toArray⟩:=⟨_,J⟩;have hsy:al.size<=20:=by rw[hy];simpa[qi]using Jn
 rw[<-hy]at IU;have YV:=fun X hX=>Qr m hm X hX;have hlx:(aQ m).length<=20:=nDigits_le20 m hm;obtain⟨x,hx⟩:∃d:ByteArray,d=⟨(aQ m).toArray⟩:=⟨_,J⟩;have F3:x.size<=20:=by rw[hx];simpa[qi]using hlx
 rw[<-hx]at YV;have HV:=aa (show bs (aQ a++32::(cG.getD 6 []++32::(aQ m++32::([61,61]++32::aQ v))))=d++⟨#[32]⟩++s++⟨#[32]⟩++x++⟨#[32]⟩++bs (cG.getD 0 [])++⟨#[32]⟩++al by rw[hd,F,hy,hx,show(⟨(aQ a).toArray⟩:ByteArray)=bs (aQ a)from J,show(⟨(aQ v).toArray⟩:ByteArray)=bs (aQ v)from J,show(⟨(aQ m).toArray⟩:ByteArray)=bs (aQ m)from J,GF,b7,b7,b7,b7,b7,b7,b7,b7];simp[cG]);clear hd F hy hx Jn hlx;obtain⟨bd,hR⟩:∃bd:ByteArray,bd=bs (aQ a++32::(cG.getD 6 []++32::(aQ m++32::([61,61]++32::aQ v)))):=⟨_,J⟩;rw[<-hR]at HV⊢;clear hR;have HE:=aa hE;clear hE hl fP;have z1:¬9223372036854775807<d.size+1:=by omega
 have z2:¬9223372036854775807<d.size+1+s.size:=by omega
 have z3:¬9223372036854775807<d.size+1+s.size+1:=by omega
 go_enter func130,ntmps130;go_wp2;obtain⟨V,hV,hB,cP,hx⟩:=eN w #[I R a,I R 7,I ah v,I ah m,ad fH,I aj 0,I R 0,I R 0,I R 0] 129;rw[<-hV];clear hV;have S:=aa hB;have gD:=aa (HE.out.au hB);clear hB;have g0:=aJ (hx 0);have g1:=aJ (hx 1);have g2:=aJ (hx 2);have g3:=aJ (hx 3);have g4:=aJ (hx 4);have oK:=aJ (hx 5);have oP:=aJ (hx 6);have kU:=aJ (hx 7);have n7:=aJ (hx 8);have gs:=aJ (mw V gD.out);have Nx:=aJ (gD.out.uk 0 (by omega));have mz:∀d' os,ap ae 60 #[I R a] (grow (redrawn V d') os) fun e bF=>e=aq (ad d)/\∃p:eh,bF=grow (redrawn V p.d) p.os:=fun d' os=>fU (HI _ (gD.out.au (cN _ _ _)).oR);clear hx mw HI;refine fI (by kernel_rfl) (by kernel_rfl) ?_;repeat(go_big_quiet_step(first|(go_at_call 60;exact mz _ _)))
 refine e6 ?_;intro _ bT;obtain⟨⟨dq,bJ⟩,bY⟩:=bT;subst bY;have ahU:∀d' os,ap ae 173 #[I ah v] (grow (redrawn (grow (redrawn V dq) bJ) d') os) fun e bF=>e=aq (ad al)/\∃p:eh,bF=grow (redrawn (grow (redrawn V dq) bJ) p.d) p.os:=fun d' os=>fU (IU _ ((gD.out.au (cN _ _ _)).au (cN _ _ _)).oR);have amO:∀d' os,ap ae 173 #[I ah m] (grow (redrawn (grow (redrawn V dq) bJ) d') os) fun e bF=>e=aq (ad x)/\∃p:eh,bF=grow (redrawn (grow (redrawn V dq) bJ) p.d) p.os:=fun d' os=>fU (YV _ ((gD.out.au (cN _ _ _)).au (cN _ _ _)).oR);have q2:=aJ (g2 dq bJ);have q3:=aJ (g3 dq bJ);have q0:=aJ (Nx dq bJ);obtain⟨z7,k7⟩:∃e:ByteArray,e=bs (cG.getD 0 []):=⟨_,J⟩;rw[<-k7]at q0 HV;have hes:z7.size=2:=by rw[k7];rfl
 clear k7;have z4:¬9223372036854775807<d.size+1+s.size+1+x.size:=by omega
 have z5:¬9223372036854775807<d.size+1+s.size+1+x.size+1:=by omega
 have z6:¬9223372036854775807<d.size+1+s.size+1+x.size+1+z7.size:=by omega
 have apI:¬9223372036854775807<d.size+1+s.size+1+x.size+1+z7.size+1:=by omega
 have ap2:¬9223372036854775807<d.size+1+s.size+1+x.size+1+z7.size+1+al.size:=by omega
 go_wp2;refine fI (by kernel_rfl) (by kernel_rfl) ?_;repeat(go_big_quiet_step(first|(go_at_call_of 173(I ah (v:Int));exact ahU _ _)|(go_at_call_of 173(I ah (m:Int));exact amO _ _)))
 refine e6 ?_;intro _ bT;obtain⟨⟨dq2,ap8⟩,bY⟩:=bT;subst bY;go_wp2;go_ret;exact⟨by rw[HV.out];rfl,ax (S.out.trans ((cN V dq bJ).mono S.out.size)) (cN _ _ _)⟩
set_option maxHeartbeats 4000000 in theorem anP(a:Nat)(ha:a<=3)(g:ByteArray)(hg:g.size<=24)(w:ac)(hE:EV w):ap ae 130 #[aw #[I R a,I R 8,I ah 0,I ah 0,ad g,I aj 0,I R 0,I R 0,I R 0]] w fun e w'=>e=aq (ad (bs (aQ a++32::(cG.getD 7 []++32::(34::(g.data.toList++[34]))))))/\Below w.heap.size w w':=by
 have HI:=fun X hX=>zz a (by omega) X hX;have hl:(aQ a).length<=20:=nDigits_le20 a (by omega);have fP:(cG.getD 7 []).length<=2:=Lj 7 (by omega);obtain⟨d,hd⟩:∃d:ByteArray,d=⟨(aQ a).toArray⟩:=⟨_,J⟩;have LO:d.size<=20:=by rw[hd];simpa[qi]using hl
 rw[<-hd]at HI;obtain⟨s,F⟩:∃d:ByteArray,d=bs (cG.getD 7 []):=⟨_,J⟩;have j6:s.size<=2:=by rw[F,ct];exact fP
 have mw:=fun X(hX:EV X)=>hX.uk 7 (by omega);rw[<-F]at mw;have HV:=aa (show bs (aQ a++32::(cG.getD 7 []++32::(34::(g.data.toList++[34]))))=d++⟨#[32]⟩++s++⟨#[32]⟩++⟨#[34]⟩++g++⟨#[34]⟩by
  rw[hd,F,show(⟨(aQ a).toArray⟩:ByteArray)=bs (aQ a)from J,GF,anS,b7,b7,b7,b7];conv=>rhs;rw[<-Dc g,b7,b7]
  simp);clear hd F;obtain⟨bd,hR⟩:∃bd:ByteArray,bd=bs (aQ a++32::(cG.getD 7 []++32::(34::(g.data.toList++[34])))):=⟨_,J⟩;rw[<-hR]at HV⊢;clear hR;have HE:=aa hE;clear hE hl fP;have z1:¬9223372036854775807<d.size+1:=by omega
 have z2:¬9223372036854775807<d.size+1+s.size:=by omega
 have z3:¬9223372036854775807<d.size+1+s.size+1:=by omega
 have z4:¬9223372036854775807<d.size+1+s.size+1+1:=by omega
 have z5:¬9223372036854775807<d.size+1+s.size+1+1+g.size:=by omega
 have z6:¬9223372036854775807<d.size+1+s.size+1+1+g.size+1:=by omega
 go_enter func130,ntmps130;go_wp2;obtain⟨V,hV,hB,cP,hx⟩:=eN w #[I R a,I R 8,I ah 0,I ah 0,ad g,I aj 0,I R 0,I R 0,I R 0] 129;rw[<-hV];clear hV;have S:=aa hB;have gD:=aa (HE.out.au hB);clear hB;have g0:=aJ (hx 0);have g1:=aJ (hx 1);have g2:=aJ (hx 2);have g3:=aJ (hx 3);have g4:=aJ (hx 4);have oK:=aJ (hx 5);have oP:=aJ (hx 6);have kU:=aJ (hx 7);have n7:=aJ (hx 8);have gs:=aJ (mw V gD.out);have Nx:=aJ (gD.out.uk 0 (by omega));have mz:∀d' os,ap ae 60 #[I R a] (grow (redrawn V d') os) fun e bF=>e=aq (ad d)/\∃p:eh,bF=grow (redrawn V p.d) p.os:=fun d' os=>fU (HI _ (gD.out.au (cN _ _ _)).oR);clear hx mw HI;refine fI (by kernel_rfl) (by kernel_rfl) ?_;repeat(go_big_quiet_step(first|(go_at_call 60;exact mz _ _)))
 refine e6 ?_;intro _ bT;obtain⟨⟨dq,bJ⟩,bY⟩:=bT;subst bY;have q4:=g4 dq bJ;go_wp2;go_ret;exact⟨by rw[HV.out];rfl,S.out.trans ((cN V dq bJ).mono S.out.size)⟩
set_option maxHeartbeats 4000000 in theorem afY(a:Nat)(ha:a<=3)(ip b lo hi:Nat)(bt:ip<4294967296)(M:cf ip b lo hi=0)(w:ac)(hE:EV w):ap ae 130 #[aw #[I R a,I R 9,I ah 0,I ah 0,ad fH,I aj ip,I R b,I R lo,I R hi]] w fun e w'=>e=aq (ad (bs (aQ a++32::(cG.getD 8 []++32::mW ip b lo hi))))/\Below w.heap.size w w':=by
 have HI:=fun X hX=>zz a (by omega) X hX;have hl:(aQ a).length<=20:=nDigits_le20 a (by omega);have fP:(cG.getD 8 []).length<=2:=Lj 8 (by omega);obtain⟨d,hd⟩:∃d:ByteArray,d=⟨(aQ a).toArray⟩:=⟨_,J⟩;have LO:d.size<=20:=by rw[hd];simpa[qi]using hl
 rw[<-hd]at HI;obtain⟨s,F⟩:∃d:ByteArray,d=bs (cG.getD 8 []):=⟨_,J⟩;have j6:s.size<=2:=by rw[F,ct];exact fP
 have mw:=fun X(hX:EV X)=>hX.uk 8 (by omega);rw[<-F]at mw;have tg:=rM M;have HT:=fun X hX=>O_ ip bt b lo hi (by omega) (by omega) (by omega) X hX;rw[show wM ip b lo hi=az #[ad (bs (mW ip b lo hi)), .nilIface]by unfold wM;rw[if_pos M,M];rfl]at HT;have jb:=YA M bt;obtain⟨al,hy⟩:=af (bs (mW ip b lo hi));have yX:al.size<=100:=by rw[hy,ct];exact jb
 rw[<-hy]at HT;have HV:=aa (show bs (aQ a++32::(cG.getD 8 []++32::mW ip b lo hi))=d++⟨#[32]⟩++s++⟨#[32]⟩++al by rw[hd,F,hy,show(⟨(aQ a).toArray⟩:ByteArray)=bs (aQ a)from J,GF,b7,b7,b7,b7];simp);clear hd F hy jb M tg;obtain⟨bd,hR⟩:∃bd:ByteArray,bd=bs (aQ a++32::(cG.getD 8 []++32::mW ip b lo hi)):=⟨_,J⟩;rw[<-hR]at HV⊢;clear hR;have HE:=aa hE;clear hE hl fP;have z1:¬9223372036854775807<d.size+1:=by omega
 have z2:¬9223372036854775807<d.size+1+s.size:=by omega
 have z3:¬9223372036854775807<d.size+1+s.size+1:=by omega
 have z4:¬9223372036854775807<d.size+1+s.size+1+al.size:=by omega
 go_enter func130,ntmps130;go_wp2;obtain⟨V,hV,hB,cP,hx⟩:=eN w #[I R a,I R 9,I ah 0,I ah 0,ad fH,I aj ip,I R b,I R lo,I R hi] 129;rw[<-hV];clear hV;have S:=aa hB;have gD:=aa (HE.out.au hB);clear hB;have g0:=aJ (hx 0);have g1:=aJ (hx 1);have g2:=aJ (hx 2);have g3:=aJ (hx 3);have g4:=aJ (hx 4);have oK:=aJ (hx 5);have oP:=aJ (hx 6);have kU:=aJ (hx 7);have n7:=aJ (hx 8);have gs:=aJ (mw V gD.out);have Nx:=aJ (gD.out.uk 0 (by omega));have mz:∀d' os,ap ae 60 #[I R a] (grow (redrawn V d') os) fun e bF=>e=aq (ad d)/\∃p:eh,bF=grow (redrawn V p.d) p.os:=fun d' os=>fU (HI _ (gD.out.au (cN _ _ _)).oR);clear hx mw HI;refine fI (by kernel_rfl) (by kernel_rfl) ?_;repeat(go_big_quiet_step(first|(go_at_call 60;exact mz _ _)))
 refine e6 ?_;intro _ bT;obtain⟨⟨dq,bJ⟩,bY⟩:=bT;subst bY;go_wp2_with(go_at_call 174;refine(HT _ (gD.out.au (cN _ _ _)).oR).mono ?_;rintro e w'⟨rfl,hb⟩);go_ret;exact⟨by rw[HV.out];rfl,ax (S.out.trans ((cN V dq bJ).mono S.out.size)) hb⟩
theorem aeW{c:CD}(h:nM c)(w:ac)(hE:EV w):ap ae 130 #[e9 c] w fun e w'=>e=aq (ad (bs (cr 32 (fX c))))/\Below w.heap.size w w':=by
 cases h with
  |wF a k v ha q h6 hv=>
   obtain⟨j,rfl⟩:∃j,k=j+1:=⟨k-1,by omega⟩;have e:cr 32 (fX ⟨a,(j+1:Nat),v,0,fH,bZ⟩)=aQ a++32::(cG.getD j []++32::aQ v):=by rcases FC q h6 with h|h|h|h|h|h<;>(obtain rfl:j=_:=Nat.succ.inj h;simp[fX,k5,cG,cr])
   rw[e];exact adr a ha j v (by omega) hv w hE
  |wX a v m ha hv hm=>exact akf a ha v m hv hm w hE
  |v_ a g ha hg=>exact anP a ha g (DC hg).2 w hE
  |dr a ip b lo hi ha bt M=>exact afY a ha ip b lo hi bt M w hE
def rI(cs:List CD):W8:=match cs with|[]=>[]|_=>32::cr 32 (io true cs)
theorem aaD:∀(cs:List CD)(f:Bool)(c:CD),io f (cs++[c])=io f cs++(if f&&cs.isEmpty then zx else yt)::fX c|[],f,c=>by cases f<;>simp[io]|x::r,f,c=>by rw[List.cons_append,io,io,aaD r false c];simp
theorem ZT{cs:List CD}(f:Bool)(h:cs≠[]):io f cs≠[]:=by
 cases cs with
  |nil=>exact absurd J h
  |cons c r=>simp[io]
theorem T_(cs:List CD)(c:CD):rI (cs++[c])=rI cs++((if cs.isEmpty then[32,105,102,32]else[32,97,110,100,32])++cr 32 (fX c)):=by
 cases cs with
  |nil=>simp only[List.nil_append,rI,io,ry];rw[join_cons 32 _ _ (Ue c)];rfl
  |cons x r=>have e:rI (x::r++[c])=32::cr 32 (io true (x::r++[c])):=J;rw[e,aaD,Ln 32 _ (by simp) _ (ZT true (by simp)),join_cons 32 _ _ (Ue c)];simp[rI,yt]
theorem Zq(r:RL):cr 32 (gi r)=cr 32 (e3 r.dO)++32::(qa r.nr++rI r.bq):=by
 unfold gi;rw[Ln 32 _ (by simp) _ (aaP _)];cases h:r.bq with
  |nil=>simp[io,rI,cr]
  |cons c t=>rw[join_cons 32 _ _ (ZT true (by simp))];rfl
theorem PA{a:bG}(h:dl a=0):(cr 32 (e3 a)).length<=30:=by
 rcases vu h with rfl|rfl|⟨n,q,h2,rfl⟩;.decide
 .decide
 .have:=nDigits_le20 n (by omega);simp[e3,cr,o_];omega
theorem ab7{nr:Int}(h0:0<=nr)(h8:nr<=8):(qa nr).length<=7:=by obtain⟨k,rfl⟩:∃k:Nat,nr=k:=⟨nr.toNat,by omega⟩;rcases sf (show k<=8 by omega)with rfl|rfl|rfl|rfl|rfl|rfl|rfl|rfl|rfl<;>decide
theorem UO{c:CD}(h:nM c):(cr 32 (fX c)).length<=130:=by
 cases h with
  |wF a k v ha q h6 hv=>have:=nDigits_le20 a (by omega);have:=nDigits_le20 v hv;rcases FC q h6 with rfl|rfl|rfl|rfl|rfl|rfl<;>(simp[fX,k5,cG,cr];omega)
  |wX a v m ha hv hm=>have:=nDigits_le20 a (by omega);have:=nDigits_le20 v hv;have:=nDigits_le20 m hm;simp[fX,k5,cG,cr];omega
  |v_ a g ha hg=>have:=nDigits_le20 a (by omega);have:=(DC hg).2;rw[dy]at this;simp[fX,k5,cG,cr];simp at this;omega
  |dr a ip b lo hi ha bt M=>have:=nDigits_le20 a (by omega);have:=YA M bt;simp[fX,k5,cG,cr,Gs];omega
theorem YM:∀(n:Nat)(cs:List CD),cs.length=n->FY cs->(rI cs).length<=n*140
 |0,cs,h,_=>by rw[CY.1 h];simp[rI]
 |n+1,cs,h,F=>by
  have bo:cs≠[]:=fun e=>by rw[e]at h;simp at h
  obtain⟨ys,al,rfl⟩:∃ys al,cs=ys++[al]:=⟨cs.dropLast,cs.getLast bo,(List.dropLast_concat_getLast bo).symm⟩;rw[T_];have q:=YM n ys (by simpa using h) fun c H=>F c (by simp[H]);have h2:=UO (F al (by simp));simp only[cl];split<;>simp<;>omega
theorem akj{r:RL}(h:uU r):(cr 32 (gi r)).length<=600:=by rw[Zq];have q:=PA h.dO;have h2:=ab7 h.yR h.zL;have h3:=YM _ r.bq J h.bq;have h4:=h.qO;simp only[cl,fh];omega
def yW(rs:List RL):W8:=rs.flatMap fun r=>cr 32 (gi r)++[10]
theorem amJ(rs:List RL)(r:RL):yW (rs++[r])=yW rs++(cr 32 (gi r)++[10]):=by simp[yW]
theorem anL(p:bj):dS p=[101,108,115,101,32]++cr 32 (e3 p.bg)++[10]++yW p.bw:=by unfold dS yW;rw[join_cons 32 _ _ (aaP _)];simp[rQ]
theorem Bi{oa:Option bl}{cs:List CD}{w:ac}(H:jV oa cs w)(n:Nat)(u:n=cs.length):0<n->∃b off,oa=U ⟨b,off,ab⟩/\b<w.heap.size/\Hid (∀i c,cs[i]?=U c->DU w b (off+i*9) c):=fun h=>by obtain⟨b,off,q1,q2,q3⟩:=H.ez (by omega);exact⟨b,off,q1,q2,aa q3⟩
def Ih(i:Nat):ByteArray:=if i=0 then⟨#[32,105,102,32]⟩else⟨#[32,97,110,100,32]⟩
set_option maxHeartbeats 4000000 in theorem ali(r:RL)(h:uU r)(oa:Option bl)(cap:Nat)(w:ac)(H:jV oa r.bq w)(hE:EV w):ap ae 91 #[lW r oa cap] w fun e w'=>e=aq (ad (bs (cr 32 (gi r))))/\Below w.heap.size w w':=by
 obtain⟨n,u⟩:=af r.bq.length;have G:=aa (Bi H n u);have hT:=Zq r;obtain⟨k,z⟩:∃k:Nat,r.nr=k:=⟨r.nr.toNat,by have:=h.yR;omega⟩;have If:k<=8:=by have:=h.zL;omega
 have h4:n<=4:=by have:=h.qO;omega
 have jN:=PA h.dO;have jb:=ab7 h.yR h.zL;have HA:=fun X hX=>ab_ r.dO h.dO X hX;have qL:=aa h.bq;have HL:=aa (show∀i,i<n->∃c,r.bq[i]?=U c/\r.bq.take (i+1)=r.bq.take i++[c]from fun i h=>uD (by omega));clear h H;obtain⟨nr,cs,⟨aN,aP⟩⟩:=r;unfold lW;unfold fe at HA;simp only at z hT G qL HL HA u jb⊢;subst z;rw[<-u];obtain⟨bd,hR⟩:∃bd:W8,bd=cr 32 (gi ⟨k,cs,⟨aN,aP⟩⟩):=⟨_,J⟩;rw[<-hR]at hT⊢;clear hR;obtain⟨PT,bE⟩:∃t:W8,t=cr 32 (e3 ⟨aN,aP⟩):=⟨_,J⟩;rw[<-bE]at hT HA jN;clear bE;obtain⟨br,hA⟩:∃t:ByteArray,t=bs PT:=⟨_,J⟩;have hAs:br.size<=30:=by rw[hA,ct];exact jN
 rw[<-hA]at HA;have gw:=V7 k If;have s9:=afA k;have je:=Gi;obtain⟨FA,n_⟩:=af qX;rw[<-n_]at gw je;obtain⟨UC,zF⟩:=af (AF k);rw[<-zF]at gw s9;obtain⟨NM,BT⟩:∃t:ByteArray,t=bs (qa k):=⟨_,J⟩;have hNs:NM.size<=7:=by rw[BT,ct];exact jb
 rw[show(⟨(qa (k:Nat)).toArray⟩:ByteArray)=NM from BT.symm]at s9;have HT:=aa (show bs bd=br++⟨#[32]⟩++NM++bs (rI cs)by rw[hT,hA,BT,GF,b7,b7,b7];simp);have HN:=aa u;have HE:=aa hE;obtain⟨S0,B'⟩:∃t:ByteArray,t=br++⟨#[32]⟩++NM:=⟨_,J⟩;have hn:=aa B';have aoE:S0.size<=40:=by rw[B',ml,ml];have:(⟨#[32]⟩:ByteArray).size=1:=J;omega
 clear n_ zF BT hA hT hE u jb jN B';have z1:¬9223372036854775807<br.size+1:=by omega
 have z2:¬9223372036854775807<br.size+1+NM.size:=by omega
 have i1:(0:Int)<=k:=by omega
 have i2:(k:Int)<9:=by omega
 go_enter func91,ntmps91;go_wp2;obtain⟨V,hV,hB,cP,hx⟩:=eN w #[I R k,ak oa n cap,I R aN,I R aP] 54;rw[<-hV];clear hV;have gD:=aa (HE.out.au hB);have g0:=aJ (hx 0);have g1:=aJ (hx 1);have g2:=aJ (hx 2);have g3:=aJ (hx 3);have GE:∀d' os,ap ae 90 #[aw #[I R aN,I R aP]] (grow (redrawn V d') os) fun e bF=>e=aq (ad br)/\∃p:eh,bF=grow (redrawn V p.d) p.os:=fun d' os=>fU (HA _ (gD.out.au (cN _ _ _)));have kk:∀d' os,ap ae 92 #[] (grow (redrawn V d') os) fun e bF=>e=aq (aw FA)/\∃p:eh,bF=grow (redrawn V p.d) p.os:=fun d' os=>fU (je _);refine fI (by kernel_rfl) (by kernel_rfl) ?_;repeat(go_big_quiet_step(first|(go_at_call 90;exact GE _ _)|(go_at_call 92;exact kk _ _)))
 refine e6 ?_;intro _ bT;obtain⟨⟨dq,bJ⟩,bY⟩:=bT;subst bY;rw[<-hn.out];clear GE kk HA je gw s9 g0 g1 g2 g3;refine Wt (fun X=>Below V.heap.size V X) (cN V dq bJ) ?_;intro X hX;have k1:=ao hX (hx 1);go_wp2;go_loopw[19,3,4](fun aL eG wd w'=>∃(i:Nat)(t:ByteArray),i<=n/\aL=I R i/\eG=ad t/\t.size<=40+i*140/\Hid (t=S0++bs (rI (cs.take i)))/\wd=ad (Ih i)/\Hid (Below X.heap.size X w'))(fun aL _ _ _=>n-(intOf aL).toNat);case atStart=>exact⟨0,S0,by omega,J,J,by omega,aa (by rw[CZ];apply za;simp[rI,bs,FK]),J,aa (aS _ _)⟩
 case round=>
  obtain⟨i,t,hi,rfl,rfl,QW,lC,rfl,S⟩:=hrel;have HW:=aa (ax (ax hB hX) S.out);by_cases am:i<n
  .obtain⟨c,cH,fF⟩:=HL.out i am;obtain⟨b,off,rfl,ds,tD⟩:=G.out (by omega);have hA:=(tD.out i c cH).au fun j=>(kL HW.out).1 b j ds;have mR:=qL.out c (iy cH);have eW:=UO mR;have o9:=aeW mR wr (HE.out.au HW.out);obtain⟨B,N⟩:∃B:ByteArray,B=bs (cr 32 (fX c)):=⟨_,J⟩;have ks:B.size<=130:=by rw[N,ct];exact eW
   rw[<-N]at o9;obtain⟨wd,KS⟩:=af (Ih i);have hJs:wd.size<=5:=by rw[KS];unfold Ih;split<;>decide
   have HS:=aa (show t++(wd++B)=S0++bs (rI (cs.take (i+1)))by
    rw[fF,T_,lC.out,KS,N,<-b7,<-b7,xj];congr 2;congr 1;have hl:(cs.take i).isEmpty=decide (i=0):=by
     rw[fs];simp only[List.isEmpty_iff,decide_eq_true_eq];have u:=HN.out;constructor
     .intro h;have h2:(cs.take i).length=0:=by rw[h];rfl
      rw[List.length_take]at h2;omega
     .rintro rfl;simp
    rw[hl];unfold Ih;by_cases e:i=0;.simp[e];rfl
    .simp[e];rfl);rw[<-KS];clear N KS cH fF eW mR lC;obtain⟨a0,bR,a2,a3,a4,a5,pW,qU,sA,_⟩:=hA;obtain⟨a6,op,v,m,gl,⟨ip,cV,lo,hh⟩⟩:=c;unfold e9 at o9;simp only at a0 bR a2 a3 a4 a5 pW qU sA o9;have g1:=ao S.out k1;have z3:¬9223372036854775807<wd.size+B.size:=by omega
   have z4:¬9223372036854775807<t.size+(wd.size+B.size):=by omega
   go_wp2_with(go_at_call 130;refine o9.mono ?_;rintro e w1⟨rfl,bb⟩);go_round;case rel=>exact⟨i+1,_,by omega,by go_num,J,by rw[ml,ml];omega,HS,by unfold Ih;rw[if_neg (by omega)],aa (ax S.out bb)⟩
   case measure=>simp[intOf];omega
  .obtain rfl:i=n:=by omega
   go_wp2;go_ret;refine⟨?_,HW.out⟩;rw[HT.out,<-hn.out];have:=lC.out;rw[li (by rw[HN.out];exact aA _)]at this;rw[<-this];rfl
set_option maxHeartbeats 4000000 in theorem akI(p:bj)(h:l3 p)(oa:Option bl)(cap:Nat)(w:ac)(hp:fc oa cap p w)(hE:EV w):ap ae 54 #[ep p oa cap] w fun e w'=>e=aq (ad (bs (dS p)))/\Below w.heap.size w w':=by
 obtain⟨n,u⟩:=af p.bw.length;have G:=aa (zg hp n u);have hT:=anL p;have eL:n<=12:=by have:=h.qO;omega
 have jN:=PA h.bg;have HA:=fun X hX=>ab_ p.bg h.bg X hX;have qj:=aa h.bw;have HL:=aa (show∀i,i<n->∃c,p.bw[i]?=U c/\p.bw.take (i+1)=p.bw.take i++[c]from fun i h=>uD (by omega));clear h hp;obtain⟨rs,⟨aN,aP⟩⟩:=p;unfold ep;unfold fe at HA;simp only at hT G qj HL HA u⊢;rw[<-u];obtain⟨bd,hR⟩:∃bd:W8,bd=dS ⟨rs,⟨aN,aP⟩⟩:=⟨_,J⟩;rw[<-hR]at hT⊢;clear hR;obtain⟨PT,bE⟩:∃t:W8,t=cr 32 (e3 ⟨aN,aP⟩):=⟨_,J⟩;rw[<-bE]at hT HA jN;clear bE;obtain⟨br,hA⟩:∃t:ByteArray,t=bs PT:=⟨_,J⟩;have hAs:br.size<=30:=by rw[hA,ct];exact jN
 rw[<-hA]at HA;have HT:=aa (show bs bd=⟨#[101,108,115,101,32]⟩++br++⟨#[10]⟩++bs (yW rs)by rw[hT,hA,show(⟨#[101,108,115,101,32]⟩:ByteArray)=bs [101,108,115,101,32]from J,show(⟨#[10]⟩:ByteArray)=bs [10]from J,b7,b7,b7]);have HN:=aa u;have HE:=aa hE;obtain⟨S0,B'⟩:∃t:ByteArray,t=⟨#[101,108,115,101,32]⟩++br++⟨#[10]⟩:=⟨_,J⟩;have hn:=aa B';have aoE:S0.size<=40:=by rw[B',ml,ml];have:(⟨#[101,108,115,101,32]⟩:ByteArray).size=5:=J;have:(⟨#[10]⟩:ByteArray).size=1:=J;omega
 clear hA hT hE u jN B';have z1:¬9223372036854775807<5+br.size:=by omega
 have z2:¬9223372036854775807<5+br.size+1:=by omega
 go_enter func54,ntmps54;obtain⟨V,hV,hB,cP,hx⟩:=eN w #[ak oa n cap,I R aN,I R aP] 32;go_wp2_with(go_at_call 90;rw[<-hV];clear hV;refine(HA _ (HE.out.au hB)).mono ?_;rintro e X⟨rfl,hX⟩;have k0:=ao hX (hx 0);refine Hid.out ?_);refine aa ?_;go_wp2;rw[<-hn.out];go_loopw[13,3](fun aL eG w'=>∃(i:Nat)(t:ByteArray),i<=n/\aL=I R i/\eG=ad t/\t.size<=40+i*601/\Hid (t=S0++bs (yW (rs.take i)))/\Hid (Below X.heap.size X w'))(fun aL _ _=>n-(intOf aL).toNat);case atStart=>exact⟨0,S0,by omega,J,J,by omega,aa (by rw[CZ];apply za;simp[yW,bs,FK]),aa (aS _ _)⟩
 case round=>
  obtain⟨i,t,hi,rfl,rfl,QW,lC,S⟩:=hrel;have HW:=aa (ax (ax hB hX) S.out);by_cases am:i<n
  .obtain⟨c,cH,fF⟩:=HL.out i am;obtain⟨b,off,rfl,ds,tD⟩:=G.out (by omega);obtain⟨dj,cc,cZ⟩:=tD.out i c cH;have Wj:=cZ.au ds HW.out;clear cZ;have bh:=qj.out c (iy cH);have eW:=akj bh;have o9:=ali c bh dj cc wr Wj.bq (HE.out.au HW.out);obtain⟨B,N⟩:∃B:ByteArray,B=bs (cr 32 (gi c)):=⟨_,J⟩;have ks:B.size<=600:=by rw[N,ct];exact eW
   rw[<-N]at o9;have HS:=aa (show t++(B++⟨#[10]⟩)=S0++bs (yW (rs.take (i+1)))by rw[fF,amJ,lC.out,N,<-b7,<-b7,xj];rfl);clear N cH fF eW bh lC;obtain⟨a0,bR,a2,a3,_,_,_,_⟩:=Wj;obtain⟨nr,cs,⟨rk,re⟩⟩:=c;unfold lW at o9;simp only at a0 bR a2 a3 o9;have g0:=ao S.out k0;have z3:¬9223372036854775807<B.size+1:=by omega
   have z4:¬9223372036854775807<t.size+(B.size+1):=by omega
   go_wp2_with(go_at_call 91;refine o9.mono ?_;rintro e w1⟨rfl,bb⟩);go_round;case rel=>exact⟨i+1,_,by omega,by go_num,J,by rw[ml,ml];have:(⟨#[10]⟩:ByteArray).size=1:=J;omega,HS,aa (ax S.out bb)⟩
   case measure=>simp[intOf];omega
  .obtain rfl:i=n:=by omega
   go_wp2;go_ret;refine⟨?_,HW.out⟩;rw[HT.out,<-hn.out];have:=lC.out;rw[li (by rw[HN.out];exact aA _)]at this;rw[<-this];rfl
def Fy(p:bj):ag:=az #[ad (if cM p=0 then bs (dS p)else⟨#[]⟩),cj (cM p)]
theorem acU(p:bj)(oa:Option bl)(cap:Nat)(w:ac)(hp:fc oa cap p w)(hE:EV w):ap ae 34 #[ep p oa cap] w fun e w'=>e=aq (Fy p)/\Below w.heap.size w w':=by
 have G:=fun w' h=>KJ p oa cap w' h;obtain⟨V,hV,hB,cP,hx⟩:=eN w #[ak oa p.bw.length cap,I R p.bg.aF,I R p.bg.aU] 32;have HP:=aa (hp.au hB);have HE:=aa (hE.au hB);by_cases h:cM p=0;.have HV:=aa (show Fy p=az #[ad (bs (dS p)), .nilIface]by unfold Fy;rw[if_pos h,h];rfl);have HW:=fun w' q h2=>akI p (BW h hp.ok) oa cap w' q h2;obtain⟨T,hT⟩:∃t:ByteArray,t=bs (dS p):=⟨_,J⟩;rw[<-hT]at HV HW;rw[h,kD]at G;clear hT h hp hE;unfold ep at*;go_enter func34,ntmps34;go_wp2_with(first|(go_at_call 35;rw[<-hV];clear hV;refine(G _ HP.out).mono ?_;rintro e X⟨rfl,hX⟩;have k0:=ao hX (hx 0);have k1:=ao hX (hx 1);have k2:=ao hX (hx 2);have HX:=aa hX;clear hX)|(go_at_call 54;refine(HW _ (HP.out.au HX.out) (HE.out.au HX.out)).mono ?_;rintro e Y⟨rfl,hY⟩));go_ret2;exact⟨by rw[HV.out];rfl,ax (ax hB HX.out) hY⟩
 .have HV:=aa (show Fy p=az #[ad ⟨#[]⟩,b8 43 (I R (cM p:Nat))]by unfold Fy;rw[if_neg h,iL h]);rw[iL h]at G;clear h hp hE;unfold ep at*;go_enter func34,ntmps34;go_wp2_with(go_at_call 35;rw[<-hV];clear hV;refine(G _ HP.out).mono ?_;rintro e X⟨rfl,hX⟩);go_ret2;exact⟨by rw[HV.out];rfl,ax hB hX⟩
structure b4(g:Nat)(w w':ac):Prop where
 os:w'.os=w.os
 tape:w'.tape=w.tape
 output:w'.output=w.output
 size:w.heap.size<=w'.heap.size
 block:∀k,k<w.heap.size->k≠g->w'.heap[k]?=w.heap[k]?
theorem b4.refl(g:Nat)(w:ac):b4 g w w:=⟨J,J,J,aA _,fun _ _ _=>J⟩
theorem b4.trans{g:Nat}{a b c:ac}(h:b4 g a b)(k:b4 g b c):b4 g a c:=⟨k.os.trans h.os,k.tape.trans h.tape,k.output.trans h.output,bL h.size k.size,fun i hi u=>(k.block i (dk hi h.size) u).trans (h.block i hi u)⟩
theorem b4.bk{g:Nat}{w w':ac}(h:Below w.heap.size w w'):b4 g w w':=⟨h.os,h.tape,h.output,h.size,fun k z _=>h.block k z⟩
theorem b4.below{D g:Nat}{a w w':ac}(h:Below D a w)(hg:D<=g)(hB:D<=w.heap.size)(k:b4 g w w'):Below D a w':=h.trans ⟨k.os,k.tape,k.output,k.size,fun i hi=>k.block i (by omega) (by omega)⟩
theorem b4.set(g o:Nat)(w:ac)(v:ag):b4 g w (w.setCell ⟨g,o,ab⟩ v):=⟨J,J,J,by simp[World.setCell],fun k _ u=>mV _ _ _ _ u⟩
theorem dt{w w':ac}{b:Nat}(h:w'.heap[b]?=w.heap[b]?)(o:Nat):w'.cell? ⟨b,o,ab⟩=w.cell? ⟨b,o,ab⟩:=by unfold World.cell?;simp only[h]
theorem abf{w w':ac}{b:Nat}(h:w'.heap[b]?=w.heap[b]?)(o:Nat):w'.frozen? ⟨b,o,ab⟩=w.frozen? ⟨b,o,ab⟩:=by unfold World.frozen?;simp only[h]
theorem b4.cell{g:Nat}{w w':ac}(k:b4 g w w'){b o:Nat}{v:ag}(u:b≠g)(h:w.cell? ⟨b,o,ab⟩=U v):w'.cell? ⟨b,o,ab⟩=U v:=(dt (k.block b (oA h) u) o).trans h
structure fo(W:ac)(g D:Nat)(ws:List W8):Prop where
 sr:∃oa cap,W.cell? ⟨g,0,ab⟩=U (ak oa ws.length cap)/\ws.length<=cap/\cap<=maxLen/\(0<ws.length->∃b off,oa=U ⟨b,off,ab⟩/\b≠g/\b<D/\∀i x,ws[i]?=U x->W.cell? ⟨b,off+i,ab⟩=U (ad (bs x)))
 b5:W.frozen? ⟨g,0,ab⟩=false
 lt:g<D
 le:D<=W.heap.size
 QP:∀x∈ws,x.length<=9000
theorem fo.heap{W V:ac}{g D:Nat}{ws:List W8}(h:fo W g D ws)(F:D<=V.heap.size)(hb:∀k,k<D->V.heap[k]?=W.heap[k]?):fo V g D ws:=by obtain⟨oa,cap,q,h2,h3,h4⟩:=h.sr;refine⟨⟨oa,cap,(dt (hb g h.lt) 0).trans q,h2,h3,fun h0=>?_⟩,(abf (hb g h.lt) 0).trans h.b5,h.lt,F,h.QP⟩;obtain⟨b,off,e,u,am,H⟩:=h4 h0;exact⟨b,off,e,u,am,fun i x hi=>(dt (hb b am) _).trans (H i x hi)⟩
theorem fo.au{W V:ac}{g D:Nat}{ws:List W8}(h:fo W g D ws)(hb:Below W.heap.size W V):fo V g D ws:=h.heap (bL h.le hb.size) fun k z=>hb.block k (dk z h.le)
theorem K7{W:ac}{g D:Nat}{ws:List W8}(h:fo W g D ws):(ws.headD []).length<=9000:=by
 cases ws with
  |nil=>simp
  |cons x r=>exact h.QP x (by simp)
theorem fo.next{w:ac}{g D:Nat}{x:W8}{r:List W8}(h:fo w g D (x::r)){v:ag}(q:w.cell? ⟨g,0,ab⟩=U v){cc:Nat}(h2:r.length<=cc)(h3:cc<=maxLen)(oa:Option bl)(h4:0<r.length->∃b off,oa=U ⟨b,off,ab⟩/\b≠g/\b<D/\∀i x,r[i]?=U x->w.cell? ⟨b,off+i,ab⟩=U (ad (bs x))):fo (w.setCell ⟨g,0,ab⟩ (ak oa r.length cc)) g D r:=by
 refine⟨⟨oa,cc,World.cell?_setCell_same _ _ _ q,h2,h3,fun h0=>?_⟩,?_,h.lt,bL h.le (b4.set g 0 w _).size,fun al hy=>h.QP al (by simp[hy])⟩;.obtain⟨b,off,e,u,am,H⟩:=h4 h0;exact⟨b,off,e,u,am,fun i x hi=>(b4.set g 0 w _).cell u (H i x hi)⟩
 .rw[World.frozen?_setCell];exact h.b5
theorem Sq(ws:List W8)(g D:Nat)(w:ac)(h:fo w g D ws):ap ae 51 #[av (U ⟨g,0,ab⟩)] w fun e w'=>e=aq (ad (bs (ws.headD [])))/\fo w' g D ws.tail/\b4 g w w':=by
 obtain⟨oa,cap,q,h2,h3,h4⟩:=h.sr;have xy:=h.b5;cases ws with
  |nil=>have HH:=aa h;clear h4 h;simp only[nI]at q;go_enter func51,ntmps51;go_wp2;go_ret;exact⟨J,HH.out,b4.refl _ _⟩
  |cons x r=>obtain⟨b,off,rfl,u,am,H⟩:=h4 (by simp);have c0:=H 0 x J;have G:=aa H;have HH:=aa h;simp only[fh,Nat.add_zero]at q h2 c0;obtain⟨n,A4⟩:=af r.length;rw[<-A4]at q h2;have HN:=aa A4;obtain⟨B,N⟩:=af (bs x);rw[<-N]at c0;have HQ:=aa N;unfold maxLen at h3;clear H h A4 N h4;obtain⟨cc,rfl⟩:∃c,cap=c+1:=⟨cap-1,by omega⟩;go_enter func51,ntmps51;go_wp2;all_goals go_ret;refine⟨by rw[HQ.out];rfl,?_,b4.set _ _ _ _⟩;rw[HN.out]at q h2⊢;exact HH.out.next q (by omega) (by unfold maxLen;omega) _ fun h0=>⟨b,off+1,by first|rfl|(rw[HN.out]at*;omega),u,am,fun i al hi=>by have:=G.out (i+1) al (by rw[c7];exact hi);rwa[show off+(i+1)=off+1+i by omega]at this⟩
/-! Numbers. -/
theorem al3{w w':ac}(h:rY w)(hb:∀k,k<7->w'.heap[k]?=w.heap[k]?):rY w':=by unfold rY Lib.TabIs World.var? at*;rw[show ae.globalNamed "internal/strconv.uint64pow10"=U 2 by kernel_rfl]at*;simp only[Option.bind_some]at*;rw[hb 2 (by omega)];exact h
theorem EV.heap{w w':ac}(h:EV w)(hb:∀k,k<7->w'.heap[k]?=w.heap[k]?):EV w':=⟨al3 h.oR hb,fun i hi=>(dt (hb 0 (by omega)) i).trans (h.uk i hi),by obtain⟨m,hm⟩:=h.QB;exact⟨m,(dt (hb 1 (by omega)) 0).trans hm⟩,by obtain⟨m,hm,hx⟩:=h.Lg;exact⟨m,(dt (hb 5 (by omega)) 0).trans hm,hx⟩,by obtain⟨m,hm,hx⟩:=h.GB;exact⟨m,(dt (hb 6 (by omega)) 0).trans hm,hx⟩⟩
theorem EV.lt{w:ac}(h:EV w):7<=w.heap.size:=by obtain⟨m,hm,_⟩:=h.GB;exact oA hm
theorem EV.sy{w w':ac}{g:Nat}(h:EV w)(hg:7<=g)(hb:b4 g w w'):EV w':=h.heap fun k z=>hb.block k (by have:=h.lt;omega) (by omega)
theorem aiI(s:ByteArray)(F:s.size<=9000)(w:ac)(hE:EV w):ap ae 125 #[ad s,I R 10,I R 64] w fun e w'=>(∃(ay:Nat)(er:ag),e=aq (az #[I ah ay,er])/\(er= .nilIface/\ay=kR s.data.toList\/(∃t p,er=b8 t p)/\kR s.data.toList=0))/\Below w.heap.size w w':=by
 cases h:tM 64 s.data.toList with
  |ok ay=>
   refine(Tryz.strconv_ParseUint_10_at64_ok s (by omega) ay h w).mono ?_;rintro e w'⟨rfl,hw⟩;refine⟨⟨ay,_,J, .inl ⟨J,by unfold kR;rw[h]⟩⟩,?_⟩;rcases hw with rfl|rfl;.exact aS _ _
   .exact Go.Joins.below_bytesWorld _ _ _ _ (aA _)
  |«syntax»=>obtain⟨ev,q,h2⟩:=hE.Lg;refine(Tryz.strconv_ParseUint_10_at64_syntax s (by omega) h ev w q h2).mono ?_;rintro e w'⟨bu,rfl,_,_,hb⟩;exact⟨⟨0,_,J, .inr ⟨⟨_,_,J⟩,by unfold kR;rw[h]⟩⟩,hb⟩
  |range=>obtain⟨ev,q,h2⟩:=hE.GB;refine(Tryz.strconv_ParseUint_10_at64_range s (by omega) h ev w q h2).mono ?_;rintro e w'⟨bu,rfl,_,_,hb⟩;exact⟨⟨18446744073709551615,_,J, .inr ⟨⟨_,_,J⟩,by unfold kR;rw[h]⟩⟩,hb⟩
theorem YE(ws:List W8)(g D:Nat)(hg:7<=g)(w:ac)(h:fo w g D ws)(hE:EV w):ap ae 87 #[av (U ⟨g,0,ab⟩)] w fun e w'=>e=aq (I ah (kR (ws.headD [])))/\fo w' g D ws.tail/\b4 g w w':=by
 have HN:=Sq ws g D w h;have F:=K7 h;obtain⟨B,N⟩:=af (bs (ws.headD []));rw[<-N]at HN;have HP:=fun X hX=>aiI B (by rw[N,ct];exact F) X hX;rw[show B.data.toList=ws.headD []by rw[N,fy]]at HP;obtain⟨ay,hu⟩:=af (kR (ws.headD []));rw[<-hu]at HP⊢;have HE:=aa hE;clear N hu F h hE;go_enter func87,ntmps87;go_wp2_with(first|(go_at_call 51;refine HN.mono ?_;rintro e X⟨rfl,hX,gj⟩;have HX:=aa hX;have p4:=aa gj;clear hX gj)|(go_at_call 125;refine(HP _ (HE.out.sy hg p4.out)).mono ?_;rintro e Y⟨⟨v,er,rfl,hv⟩,hY⟩;have HV:=aa hv;clear hv;refine Hid.out ?_));refine aa ?_;rcases HV.out with⟨rfl,rfl⟩|⟨⟨t,p,rfl⟩,hz⟩;.go_wp2;go_ret;exact⟨J,HX.out.au hY,p4.out.trans (b4.bk hY)⟩
 .have HZ:=aa hz;clear hz HV;go_wp2;go_ret;exact⟨by rw[HZ.out];rfl,HX.out.au hY,p4.out.trans (b4.bk hY)⟩
theorem af3(s:ByteArray)(F:s.size<=281474976710656)(w:ac):ap ae 127 #[ad s] w fun e w'=>e=aq (ad s)/\Below w.heap.size w w':=by go_enter func127,ntmps127;go_wp2_with(go_at_call 164;refine(Tryz.stringslite_Clone s _ F).mono ?_;rintro e w'⟨rfl,hb⟩);go_ret;exact⟨J,hb⟩
theorem aaL{l:List W8}{x:W8}(h:∀i,i<l.length->l.getD i []≠x):l.findIdx? (·==x)=ab:=by rw[List.findIdx?_eq_none_iff];intro al hy;obtain⟨i,hi,rfl⟩:=List.mem_iff_getElem.1 hy;have:=h i hi;rw[cI,cq hi,vE]at this;simpa using this
theorem WZ{l:List W8}{x:W8}{i:Nat}(hi:i<l.length)(h:l.getD i []=x)(hj:∀j,j<i->l.getD j []≠x):l.findIdx? (·==x)=U i:=by rw[List.findIdx?_eq_some_iff_getElem];rw[cI,cq hi,vE]at h;refine⟨hi,by simpa using h,fun j jz=>?_⟩;have:=hj j jz;rw[cI,cq (by omega),vE]at this;simpa using this
theorem lh(l:W8):(bs l).toList=l:=by rw[Lib.toList_data,fy]
theorem agd(x:W8)(w:ac)(hE:EV w):ap ae 126 #[ad (bs x)] w fun e w'=>e=aq (I R (sq x:Nat))/\Below w.heap.size w w':=by
 obtain⟨B,N⟩:=af (bs x);rw[<-N];have HQ:=aa (show B.toList=x by rw[N,lh]);have HS:=aa hE.uk;clear N hE;go_enter func126,ntmps126;go_wp2;go_loopw[4](fun aL w'=>∃i:Nat,i<=9/\aL=I R i/\Hid (∀j,j<i->cG.getD j []≠x)/\w'=w)(fun aL _=>9-(intOf aL).toNat);case atStart=>exact⟨0,by omega,J,aa (fun j hj=>by omega),J⟩
 case round=>
  obtain⟨i,hi,rfl,HJ,rfl⟩:=hrel;by_cases am:i<9
  .have c:=HS.out i am;obtain⟨s,F⟩:=af (bs (cG.getD i []));rw[<-F]at c;have qY:=aa (show s.toList=cG.getD i []by rw[F,lh]);clear F;have i1:(0:Int)<=i:=by omega
   have i2:(i:Int)<9:=by omega
   by_cases he:s.toList=B.toList
   .have HF:=aa (show sq x=i+1 by unfold sq;rw[WZ (i:=i) (by simp[cG];omega) (by rw[<-qY.out,he,HQ.out]) HJ.out]);have dF:R.wrap (1+(i:Int))=1+(i:Int):=by rw[jP];omega
    go_wp2;go_ret;exact⟨ia (by rw[HF.out];omega),aS _ _⟩
   .have sX:=aa (show∀j,j<i+1->cG.getD j []≠x from fun j hj=>by
     by_cases e:j=i;.rw[e,<-qY.out,<-HQ.out];exact he
     .exact HJ.out j (by omega));have PQ:(s.toList==B.toList)=false:=by simpa using he
    clear he;go_wp2;go_round;case rel=>exact⟨i+1,by omega,by go_num,sX,trivial⟩
    case measure=>simp[intOf];omega
  .obtain rfl:i=9:=by omega
   have HF:=aa (show sq x=0 by unfold sq;rw[aaL (fun j hj=>HJ.out j (by simpa[cG]using hj))]);go_wp2;go_ret;exact⟨ia (by rw[HF.out];rfl),aS _ _⟩
theorem adl(i:Nat)(h:i<=8):qX[i*5]?=U (ad (bs (mi.getD i []))):=by rcases sf h with rfl|rfl|rfl|rfl|rfl|rfl|rfl|rfl|rfl<;>rfl
theorem adf(x:W8)(w:ac):ap ae 88 #[ad (bs x)] w fun e w'=>e=aq (I R (j_ x))/\Below w.heap.size w w':=by
 obtain⟨B,N⟩:=af (bs x);rw[<-N];have HQ:=aa (show B.toList=x by rw[N,lh]);clear N;have je:=Gi;have vj:=adl;obtain⟨FA,n_⟩:=af qX;have hFs:FA.size=45:=by rw[n_];rfl
 have hF1:FA.all (·.oneCell')=true:=by rw[n_];kernel_rfl
 rw[<-n_]at je vj;have HFN:=aa vj;clear n_ vj;go_enter func88,ntmps88;go_wp2_with(first|(go_at_call 92;refine(je _).mono ?_;rintro e X⟨rfl,hX⟩)|(refine bK J 188 _ _ J X.heap.size FA J J 188 _ (a7 _ _) (by rw[hFs];kernel_rfl) (by rw[hFs];rfl) hF1 ?_;rw[World.setRow_alloc_new];refine Hid.out ?_));refine aa ?_;obtain⟨V,hV,hB,cP,hx⟩:=eN X FA 188;rw[<-hV];clear hV;have S:=aa (ax hX hB);have HX:=aa hx;clear hx;go_wp2;go_loopw[6](fun aL w'=>∃i:Nat,i<=9/\aL=I R i/\Hid (∀j,j<i->mi.getD j []≠x)/\w'=V)(fun aL _=>9-(intOf aL).toNat);case atStart=>exact⟨0,by omega,J,aa (fun j hj=>by omega),J⟩
 case round=>
  obtain⟨i,hi,rfl,HJ,rfl⟩:=hrel;by_cases am:i<9
  .have c:=(HX.out (i*5)).trans (HFN.out i (by omega));obtain⟨s,F⟩:=af (bs (mi.getD i []));rw[<-F]at c;have qY:=aa (show s.toList=mi.getD i []by rw[F,lh]);clear F;have i1:(0:Int)<=i:=by omega
   have i2:(i:Int)<9:=by omega
   by_cases he:s.toList=B.toList;.have HF:=aa (show j_ x=i by unfold j_;rw[WZ (i:=i) (by simp[mi];omega) (by rw[<-qY.out,he,HQ.out]) HJ.out]);go_wp2;go_ret;exact⟨ia (by rw[HF.out]),S.out⟩
   .have sX:=aa (show∀j,j<i+1->mi.getD j []≠x from fun j hj=>by
     by_cases e:j=i;.rw[e,<-qY.out,<-HQ.out];exact he
     .exact HJ.out j (by omega));have PQ:(s.toList==B.toList)=false:=by simpa using he
    clear he;go_wp2;go_round;case rel=>exact⟨i+1,by omega,by go_num,sX,trivial⟩
    case measure=>simp[intOf];omega
  .obtain rfl:i=9:=by omega
   have HF:=aa (show j_ x=-1 by unfold j_;rw[aaL (fun j hj=>HJ.out j (by simpa[mi]using hj))]);go_wp2;go_ret;exact⟨ia (by rw[HF.out]),S.out⟩
theorem ij(X:ac)(r k:Nat)(cs:Array ag)(h:k≠r):(X.setRow r cs).heap[k]?=X.heap[k]?:=CV _ _ _ _ h
theorem iz(X:ac)(r:Nat)(cs:Array ag):(X.setRow r cs).heap.size=X.heap.size:=by simp[World.setRow]
theorem b4.row{g r:Nat}{w X:ac}(h:b4 g w X)(L:w.heap.size<=r)(cs:Array ag):b4 g w (X.setRow r cs):=⟨h.os,h.tape,h.output,by rw[iz];exact h.size,fun k z u=>(ij X r k cs (by omega)).trans (h.block k z u)⟩
theorem fo.row{X:ac}{g D r:Nat}{ws:List W8}(h:fo X g D ws)(L:D<=r)(cs:Array ag):fo (X.setRow r cs) g D ws:=h.heap (by rw[iz];exact h.le) fun k z=>ij X r k cs (by omega)
theorem iP:(ae.info? 30).map (·.size)=U 2:=by kernel_rfl
theorem mA(a b:Int):(#[I R a,I R b]:Array ag).all (·.oneCell')=true:=by simp[fG]
theorem pr{B x:W8}(h:B≠x):(B==x)=false:=by simpa using h
set_option maxHeartbeats 1000000 in theorem aaB(ws:List W8)(g D:Nat)(hg:7<=g)(w:ac)(h:fo w g D ws)(hE:EV w):ap ae 52 #[av (U ⟨g,0,ab⟩)] w fun e w'=>e=aq (fe (kG ws).1)/\fo w' g D (kG ws).2/\b4 g w w':=by
 obtain⟨V,hV,g7,dp,jt⟩:∃V,V=w.alloc (.cells #[I R 0,I R 0] 30)/\V.heap[w.heap.size]?=U (.cells #[I R 0,I R 0] 30 (0,0))/\Below w.heap.size w V/\w.heap.size<V.heap.size:=⟨_,J,a7 _ _,ai _ _,by rw[bA];omega⟩;have qd:g<w.heap.size:=dk h.lt h.le;have HN:=Sq ws g D V (h.au dp);have HR:=fun X hX hE=>YE ws.tail g D hg X hX hE;have HE:=aa (hE.au dp);have S:=aa h.le;obtain⟨B,N⟩:=af (bs (ws.headD []));rw[<-N]at HN;have HQ:=aa (show B.toList=ws.headD []by rw[N,lh]);clear hE h;have bc:=aa (show w.heap.size≠g/\w.heap.size<V.heap.size by omega);by_cases q:ws.headD []=tC
 .have HV:=aa (show kG ws=(⟨1,0⟩,ws.tail)by unfold kG;rw[if_pos q]);rw[q]at N;subst N;unfold bs tC at HN;clear HQ HR;go_enter func52,ntmps52;go_wp2_with(first|(go_at_call 51;rw[<-hV];refine HN.mono ?_;rintro e X⟨rfl,hX,gj⟩;have ou:=(gj.block w.heap.size bc.out.2 bc.out.1).trans g7)|(refine bK J 30 _ _ J w.heap.size #[I R 1,I R 0] J J 30 _ ou iP J (mA _ _) ?_));refine ba (v:=aw #[I R 1,I R 0]) (kM J _ _ w.heap.size 30 #[I R 1,I R 0] (0,0) _ J (aV _ _ _ _ _ _ ou) underlying30 J iP) J ⟨?_,?_,?_⟩;.rw[HV.out];rfl
  .rw[HV.out];exact hX.row S.out _
  .exact((b4.bk dp).trans gj).row (aA _) _
 have n1:=q;clear q;by_cases q:ws.headD []=tk
 .have HV:=aa (show kG ws=(⟨3,0⟩,ws.tail)by unfold kG;rw[if_neg n1,if_pos q]);rw[q]at N;subst N;unfold bs tk at HN;clear HQ HR;go_enter func52,ntmps52;go_wp2_with(first|(go_at_call 51;rw[<-hV];refine HN.mono ?_;rintro e X⟨rfl,hX,gj⟩;have ou:=(gj.block w.heap.size bc.out.2 bc.out.1).trans g7)|(refine bK J 30 _ _ J w.heap.size #[I R 3,I R 0] J J 30 _ ou iP J (mA _ _) ?_));refine ba (v:=aw #[I R 3,I R 0]) (kM J _ _ w.heap.size 30 #[I R 3,I R 0] (0,0) _ J (aV _ _ _ _ _ _ ou) underlying30 J iP) J ⟨?_,?_,?_⟩;.rw[HV.out];rfl
  .rw[HV.out];exact hX.row S.out _
  .exact((b4.bk dp).trans gj).row (aA _) _
 have n2:=q;clear q;by_cases q:ws.headD []=o_
 .have HV:=aa (show kG ws=(⟨2,um (kR (ws.tail.headD []))⟩,ws.tail.tail)by unfold kG;rw[if_neg n1,if_neg n2,if_pos q]);rw[q]at N;subst N;unfold bs o_ at HN;obtain⟨ay,hu⟩:=af (kR (ws.tail.headD []));rw[<-hu]at HR HV;have MD:R.wrap (ay:Int)=um ay:=J;obtain⟨Pm,ht⟩:=af (um ay);rw[<-ht]at MD HV;clear HQ hu ht;go_enter func52,ntmps52;go_wp2_with(first|(go_at_call 51;rw[<-hV];refine HN.mono ?_;rintro e X⟨rfl,hX,gj⟩;have HX:=aa hX;have p4:=aa gj;clear hX gj)|(go_at_call 87;refine(HR _ HX.out (HE.out.sy hg p4.out)).mono ?_;rintro e Y⟨rfl,hY,uv⟩;have Va:=(uv.block w.heap.size (dk bc.out.2 p4.out.size) bc.out.1).trans ((p4.out.block w.heap.size bc.out.2 bc.out.1).trans g7))|(refine bK J 30 _ _ J w.heap.size #[I R 2,I R Pm] J J 30 _ Va iP J (mA _ _) ?_));refine ba (v:=aw #[I R 2,I R Pm]) (kM J _ _ w.heap.size 30 #[I R 2,I R Pm] (0,0) _ J (aV _ _ _ _ _ _ Va) underlying30 J iP) J ⟨?_,?_,?_⟩;.rw[HV.out];rfl
  .rw[HV.out];exact hY.row S.out _
  .exact(((b4.bk dp).trans p4.out).trans uv).row (aA _) _
 .have HV:=aa (show kG ws=(⟨0,0⟩,ws.tail)by unfold kG;rw[if_neg n1,if_neg n2,if_neg q]);have b1:=pr n1;have b2:=pr n2;have b3:=pr q;rw[<-HQ.out]at b1 b2 b3;unfold tC at b1;unfold tk at b2;unfold o_ at b3;clear HQ N n1 n2 q HR;go_enter func52,ntmps52;go_wp2_with(first|(go_at_call 51;rw[<-hV];refine HN.mono ?_;rintro e X⟨rfl,hX,gj⟩;have ou:=(gj.block w.heap.size bc.out.2 bc.out.1).trans g7)|(refine bK J 30 _ _ J w.heap.size #[I R 0,I R 0] J J 30 _ ou iP J (mA _ _) ?_));refine ba (v:=aw #[I R 0,I R 0]) (kM J _ _ w.heap.size 30 #[I R 0,I R 0] (0,0) _ J (aV _ _ _ _ _ _ ou) underlying30 J iP) J ⟨?_,?_,?_⟩;.rw[HV.out];rfl
  .rw[HV.out];exact hX.row S.out _
  .exact((b4.bk dp).trans gj).row (aA _) _
def bm(c:CD):Array ag:=#[I R c.a6,I R c.op,I ah c.v,I ah c.m,ad c.ny,I aj c.dr.ip,I R c.dr.bits,I R c.dr.lo,I R c.dr.hi]
def cu:CD:=⟨0,0,0,0,⟨#[]⟩,bZ⟩
theorem gP:(ae.info? 129).map (·.size)=U 9:=by kernel_rfl
theorem ly(c:CD):(bm c).all (·.oneCell')=true:=by simp[bm,fG]
structure CX(w:ac)(g D r1 r2:Nat)(ws:List W8)(c:CD)(X:ac):Prop where
 ft:fo X g D ws
 sy:b4 g w X
 ci:X.heap[r1]?=U (.cells (bm cu) 129 (0,0))
 row:X.heap[r2]?=U (.cells (bm c) 129 (0,0))
 le:w.heap.size<=r1/\r1<r2/\g<w.heap.size/\D<=w.heap.size/\7<=g
 ev:EV X
theorem CX.step{w:ac}{g D r1 r2:Nat}{ws o3:List W8}{c:CD}{X Y:ac}(h:CX w g D r1 r2 ws c X)(hg:7<=g)(hY:fo Y g D o3)(hb:b4 g X Y):CX w g D r1 r2 o3 c Y:=have q:=(bM.1 h.ci).1;have h2:=(bM.1 h.row).1;have hl:=h.le;⟨hY,h.sy.trans hb,(hb.block r1 q (by omega)).trans h.ci,(hb.block r2 h2 (by omega)).trans h.row,h.le,h.ev.sy hg hb⟩
theorem CX.au{w:ac}{g D r1 r2:Nat}{ws:List W8}{c:CD}{X Y:ac}(h:CX w g D r1 r2 ws c X)(hg:7<=g)(hb:Below X.heap.size X Y):CX w g D r1 r2 ws c Y:=h.step hg (h.ft.au hb) (b4.bk hb)
theorem CX.set{w:ac}{g D r1 r2:Nat}{ws:List W8}{c:CD}{X:ac}(h:CX w g D r1 r2 ws c X)(j:Nat)(v:ag)(wm:CD)(H:(bm c).setIfInBounds j v=bm wm):CX w g D r1 r2 ws wm (X.setCell ⟨r2,j,ab⟩ v):=by have hl:=h.le;have h7:=h.ev.lt;rw[cJ _ _ j _ _ _ _ h.row,H];refine⟨h.ft.row (by omega) _,h.sy.row (by omega) _,(CV _ _ _ _ (by omega)).trans h.ci,aV _ _ _ _ _ _ h.row,h.le,?_⟩;exact h.ev.heap fun k z=>ij X r2 k _ (by have:=h.ft.le;have:=h.ft.lt;have:=h.sy.size;omega)
theorem CX.cell{w:ac}{g D r1 r2:Nat}{ws:List W8}{c:CD}{X:ac}(h:CX w g D r1 r2 ws c X)(j:Nat):X.cell? ⟨r2,j,ab⟩=(bm c)[j]?:=aT _ _ j _ _ _ h.row
theorem CX.b5{w:ac}{g D r1 r2:Nat}{ws:List W8}{c:CD}{X:ac}(h:CX w g D r1 r2 ws c X)(j:Nat):X.frozen? ⟨r2,j,ab⟩=false:=cy _ _ j _ _ h.row
theorem CX.start{w V X:ac}{g D:Nat}{ws:List W8}(a:Int)(hg:7<=g)(qd:g<w.heap.size)(hB:D<=w.heap.size)(dp:Below w.heap.size w V)(g7:V.heap[w.heap.size]?=U (.cells (bm cu) 129 (0,0)))(jt:w.heap.size<V.heap.size)(Ps:EV V)(hX:fo X g D ws)(gj:b4 g V X):CX w g D w.heap.size X.heap.size ws ⟨a,0,0,0,⟨#[]⟩,bZ⟩ (X.alloc (.cells (bm ⟨a,0,0,0,⟨#[]⟩,bZ⟩) 129)):=have F:=gj.size;⟨hX.au (ai _ _),((b4.bk dp).trans gj).trans (b4.bk (ai _ _)),(((ai X _).block w.heap.size (by omega)).trans (gj.block w.heap.size jt (by omega))).trans g7,a7 _ _,⟨aA _,by omega,qd,hB,hg⟩,(Ps.sy hg gj).au (ai _ _)⟩
theorem CX.j'{w:ac}{g D r1 r2:Nat}{ws:List W8}{c:CD}{X:ac}(h:CX w g D r1 r2 ws c X)(cs:Array ag):fo (X.setRow r1 cs) g D ws/\b4 g w (X.setRow r1 cs):=⟨h.ft.row (by have:=h.le;omega) _,h.sy.row h.le.1 _⟩
theorem yk{P:Program}{f:FuncId}{args:Array ag}{aE:Ending->ac->Prop}{W0:ac}(d5:ac->Prop)(h:d5 W0)(ge:∀W,d5 W->ap P f args W aE):ap P f args W0 aE:=ge _ h
theorem ajV{w w':ac}(h:w'=w\/w'=w.drew):Below w.heap.size w w':=by
 rcases h with rfl|rfl;.exact aS _ _
 .exact(aS _ _).drew
theorem ala(x:W8):∃(ip:Nat)(b lo hi:Int)(er:ag),W6 (ca x)=az #[oQ ip b lo hi,er]/\Cj x=⟨ip,b,lo,hi⟩:=by
 unfold Cj;cases h:ca x with
  |none=>exact⟨0,0,0,0,_,J,J⟩
  |some p=>obtain⟨ip,b,lo,hi⟩:=p;exact⟨ip,b,lo,hi,_,J,J⟩
theorem amc{x:W8}(h:x.length<=9000):(⟨(Ay x).toArray⟩:ByteArray).size<=9000:=by
 have q:(Ay x).length<=x.length:=by unfold Ay Lib.trimB Lib.trimLeftB Lib.trimRightB;have e1:=(ao_ (p:=(·==(34:UInt8))) (l:=(List.dropWhile (·==(34:UInt8)) x.reverse).reverse)).length_le;have e2:=(ao_ (p:=(·==(34:UInt8))) (l:=x.reverse)).length_le;simp only[List.length_reverse]at e1 e2;omega
 simp only[qi,List.size_toArray];omega
theorem BP{ws t:List W8}{x:W8}(ht:t=ws.tail)(hx:x=ws.headD [])(g D:Nat)(w:ac)(h:fo w g D ws):ap ae 51 #[av (U ⟨g,0,ab⟩)] w fun e w'=>e=aq (ad (bs x))/\fo w' g D t/\b4 g w w':=by subst ht hx;exact Sq ws g D w h
theorem KI{ws t:List W8}{ay:Nat}(ht:t=ws.tail)(hu:ay=kR (ws.headD []))(g D:Nat)(hg:7<=g)(w:ac)(h:fo w g D ws)(hE:EV w):ap ae 87 #[av (U ⟨g,0,ab⟩)] w fun e w'=>e=aq (I ah ay)/\fo w' g D t/\b4 g w w':=by subst ht hu;exact YE ws g D hg w h hE
set_option maxHeartbeats 4000000 in theorem ann(ws:List W8)(g D:Nat)(hg:7<=g)(w:ac)(h:fo w g D ws)(hE:EV w):ap ae 89 #[av (U ⟨g,0,ab⟩)] w fun e w'=>e=aq (e9 (mn ws).1)/\fo w' g D (mn ws).2/\b4 g w w':=by
 obtain⟨V,hV,g7,dp,jt⟩:∃V,V=w.alloc (.cells (bm cu) 129)/\V.heap[w.heap.size]?=U (.cells (bm cu) 129 (0,0))/\Below w.heap.size w V/\w.heap.size<V.heap.size:=⟨_,J,a7 _ _,ai _ _,by rw[bA];omega⟩;have qd:g<w.heap.size:=dk h.lt h.le;obtain⟨t1,mO⟩:=af ws.tail;obtain⟨Sp,oO⟩:=af (kR (ws.headD []));have o5:=KI mO oO g D hg V (h.au dp) (hE.au dp);have HLE:=aa h.le;have gD:=aa (hE.au dp);have MD:R.wrap (Sp:Int)=um Sp:=J;obtain⟨a0,Rw⟩:=af (um Sp);rw[<-Rw]at MD;obtain⟨x1,fT⟩:=af (t1.headD []);obtain⟨t2,zN⟩:=af t1.tail;obtain⟨x2,hx2⟩:=af (t2.headD []);obtain⟨uw,QG⟩:=af (kR (t2.headD []));obtain⟨t3,Af⟩:=af t2.tail;obtain⟨x3,pY⟩:=af (t3.headD []);obtain⟨t4,zq⟩:=af t3.tail;obtain⟨Nz,OR⟩:=af (kR (t4.headD []));obtain⟨t5,Pr⟩:=af t4.tail;obtain⟨op,EH⟩:=af (sq x1);have hr:=aa (show mn ws=if op=8 then(⟨a0,op,0,0,⟨(Ay x2).toArray⟩,bZ⟩,t3)else if op=9 then(⟨a0,op,0,0,fH,Cj x2⟩,t3)else if op=7 then(⟨a0,op,Nz,uw,fH,bZ⟩,t5)else(⟨a0,op,uw,0,fH,bZ⟩,t3)by rw[Rw,oO,EH,Pr,OR,zq,fT,hx2,QG,Af,zN,mO];rfl);have HF:=fun X hX=>agd x1 X hX;rw[<-EH]at HF;have OX:=aa zN;have jY:=aa fT;have gv:=aa hx2;have zE:=aa pY;have HUM:=aa QG;have DY:=aa Af;have HT4:=aa zq;have HT5:=aa Pr;have HUV:=aa OR;clear oO Rw EH h hE mO fT zN hx2 QG Af pY zq OR Pr;unfold bm cu bZ at hV;simp only at hV;go_enter func89,ntmps89;go_wp2_with fail;have r_:=hV;rw[show(w.alloc (Obj.cells #[I R 0,I R 0,I ah 0,I ah 0,ad ⟨#[]⟩,I aj 0,I R 0,I R 0,I R 0] 129))=V from r_.symm];refine o5.mono ?_;rintro e X⟨rfl,hX,gj⟩;go_wp2_with fail;refine yk (W0:=X.alloc (.cells #[I R a0,I R 0,I ah 0,I ah 0,ad ⟨#[]⟩,I aj 0,I R 0,I R 0,I R 0] 129)) (CX w g D w.heap.size X.heap.size t1 ⟨a0,0,0,0,⟨#[]⟩,bZ⟩) (CX.start a0 hg qd HLE.out dp g7 jt gD.out hX gj) ?_;obtain⟨r2,dg⟩:=af X.heap.size;rw[<-dg];clear hX gj dg o5 MD hV r_ g7 dp jt gD;intro Y hY;have G:=aa hY;clear hY;refine(BP OX.out jY.out g D _ G.out.ft).mono ?_;rintro e Y1⟨rfl,dF,c_⟩;replace G:=aa (G.out.step hg dF c_);clear dF c_;go_wp2_with fail;refine(HF _ G.out.ev).mono ?_;rintro e Y2⟨rfl,dF⟩;replace G:=aa (G.out.au hg dF);clear dF HF;have up:=G.out.cell 1;have zY:=G.out.b5 1;simp only[bm,bZ,cK,cT,c7]at up;have HS:=aa (G.out.set 1 (I R (op:Nat)) ⟨a0,(op:Nat),0,0,⟨#[]⟩,bZ⟩ (by rfl));clear G;by_cases h8:op=8
 .subst h8;have HV:=aa (hr.out.trans (if_pos J));clear hr;go_wp2_with fail;refine yk (W0:=Y2.setCell ⟨r2,1,ab⟩ (I R 8)) (CX w g D w.heap.size r2 t2 ⟨a0,(8:Nat),0,0,⟨#[]⟩,bZ⟩) HS.out ?_;clear HS up zY;intro Y3 hY;have G:=aa hY;clear hY;have c':x2.length<=9000:=by have:=K7 G.out.ft;rwa[<-gv.out]at this
  refine(BP DY.out gv.out g D _ G.out.ft).mono ?_;rintro e Y4⟨rfl,dF,c_⟩;replace G:=aa (G.out.step hg dF c_);clear dF c_;obtain⟨B,N⟩:=af (bs x2);have ks:B.size<=9000:=by rw[N,ct];exact c'
  have HQ:=aa (show B.data.toList=x2 by rw[N,fy]);rw[<-N];clear N c';go_wp2_with fail;refine(Tryz.strings_Trim_one B 34 (by decide) _ (by omega)).mono ?_;rw[HQ.out];obtain⟨aI,hz⟩:∃aI:ByteArray,aI=⟨(Ay x2).toArray⟩:=⟨_,J⟩;have TN:aI.size<=9000:=by rw[hz];exact amc (by rw[<-HQ.out,<-dy];exact ks)
  rw[show(⟨(Lib.trimB x2 34).toArray⟩:ByteArray)=aI from hz.symm];rw[<-hz]at HV;clear hz;rintro e Y5⟨rfl,dF⟩;replace G:=aa (G.out.au hg (ajV dF));clear dF;go_wp2_with fail;refine(af3 aI (by omega) _).mono ?_;rintro e ah2⟨rfl,dF⟩;replace G:=aa (G.out.au hg dF);clear dF;have c0:=G.out.cell 0;have c1:=G.out.cell 1;have c2:=G.out.cell 2;have c3:=G.out.cell 3;have fj:=G.out.cell 4;have nD:=G.out.cell 5;have lv:=G.out.cell 6;have o4:=G.out.cell 7;have iX:=G.out.cell 8;simp only[bm,bZ,cK,cT,c7]at c0 c1 c2 c3 fj nD lv o4 iX;have f4:=G.out.b5 4;have HS:=aa (G.out.set 4 (ad aI) ⟨a0,(8:Nat),0,0,aI,bZ⟩ (by rfl));have aZ:=HS.out.ci;obtain⟨cc,gb⟩:=af (bm ⟨a0,(8:Nat),0,0,aI,bZ⟩);have mM:cc.all (·.oneCell')=true:=by rw[gb];exact ly _
  go_wp2_with(refine bK J 129 _ _ J w.heap.size cc J (by rw[gb];rfl) 129 _ aZ (by rw[gb];exact gP) (by rw[gb];rfl) mM ?_);refine ba (v:=aw cc) (kM J _ _ w.heap.size 129 cc (0,0) _ J (aV _ _ _ _ _ _ aZ) underlying129 J (by rw[gb];exact gP)) J ⟨?_,?_,?_⟩;.rw[HV.out,gb];rfl
  .rw[HV.out];exact(HS.out.j' _).1
  .exact(HS.out.j' _).2
 have BF:¬(op:Int)=8:=by omega
 by_cases h7:op=7
 .subst h7;have HV:=aa (hr.out.trans ((if_neg (by omega)).trans ((if_neg (by omega)).trans (if_pos J))));clear hr;go_wp2_with fail;refine yk (W0:=Y2.setCell ⟨r2,1,ab⟩ (I R 7)) (CX w g D w.heap.size r2 t2 ⟨a0,(7:Nat),0,0,⟨#[]⟩,bZ⟩) HS.out ?_;clear HS up zY;intro Y3 hY;have G:=aa hY;clear hY;refine(KI DY.out HUM.out g D hg _ G.out.ft G.out.ev).mono ?_;rintro e Y4⟨rfl,dF,c_⟩;replace G:=aa (G.out.step hg dF c_);clear dF c_;have up:=G.out.cell 3;have zY:=G.out.b5 3;simp only[bm,bZ,cK,cT,c7]at up;have HS:=aa (G.out.set 3 (I ah uw) ⟨a0,(7:Nat),0,uw,⟨#[]⟩,bZ⟩ (by rfl));clear G;go_wp2_with fail;refine yk (W0:=Y4.setCell ⟨r2,3,ab⟩ (I ah uw)) (CX w g D w.heap.size r2 t3 ⟨a0,(7:Nat),0,uw,⟨#[]⟩,bZ⟩) HS.out ?_;clear HS up zY;intro Y5 hY;have G:=aa hY;clear hY;have c':x3.length<=9000:=by have:=K7 G.out.ft;rwa[<-zE.out]at this
  refine(BP HT4.out zE.out g D _ G.out.ft).mono ?_;rintro e ah2⟨rfl,dF,c_⟩;replace G:=aa (G.out.step hg dF c_);clear dF c_;clear c';go_wp2_with fail;refine(KI HT5.out HUV.out g D hg _ G.out.ft G.out.ev).mono ?_;rintro e apE⟨rfl,dF,c_⟩;replace G:=aa (G.out.step hg dF c_);clear dF c_;have c0:=G.out.cell 0;have c1:=G.out.cell 1;have c2:=G.out.cell 2;have c3:=G.out.cell 3;have fj:=G.out.cell 4;have nD:=G.out.cell 5;have lv:=G.out.cell 6;have o4:=G.out.cell 7;have iX:=G.out.cell 8;simp only[bm,bZ,cK,cT,c7]at c0 c1 c2 c3 fj nD lv o4 iX;have f2:=G.out.b5 2;have HS:=aa (G.out.set 2 (I ah Nz) ⟨a0,(7:Nat),Nz,uw,⟨#[]⟩,bZ⟩ (by rfl));have aZ:=HS.out.ci;obtain⟨cc,gb⟩:=af (bm ⟨a0,(7:Nat),Nz,uw,⟨#[]⟩,bZ⟩);have mM:cc.all (·.oneCell')=true:=by rw[gb];exact ly _
  go_wp2_with(refine bK J 129 _ _ J w.heap.size cc J (by rw[gb];rfl) 129 _ aZ (by rw[gb];exact gP) (by rw[gb];rfl) mM ?_);refine ba (v:=aw cc) (kM J _ _ w.heap.size 129 cc (0,0) _ J (aV _ _ _ _ _ _ aZ) underlying129 J (by rw[gb];exact gP)) J ⟨?_,?_,?_⟩;.rw[HV.out,gb];rfl
  .rw[HV.out];exact(HS.out.j' _).1
  .exact(HS.out.j' _).2
 have IW:¬(op:Int)=7:=by omega
 by_cases h9:op=9
 .subst h9;have HV:=aa (hr.out.trans ((if_neg (by omega)).trans (if_pos J)));clear hr;go_wp2_with fail;refine yk (W0:=Y2.setCell ⟨r2,1,ab⟩ (I R 9)) (CX w g D w.heap.size r2 t2 ⟨a0,(9:Nat),0,0,⟨#[]⟩,bZ⟩) HS.out ?_;clear HS up zY;intro Y3 hY;have G:=aa hY;clear hY;have c':x2.length<=9000:=by have:=K7 G.out.ft;rwa[<-gv.out]at this
  refine(BP DY.out gv.out g D _ G.out.ft).mono ?_;rintro e Y4⟨rfl,dF,c_⟩;replace G:=aa (G.out.step hg dF c_);clear dF c_;have HP:=fun X=>ahG (bs x2) (by rw[ct];omega) X;rw[fy]at HP;obtain⟨B,N⟩:=af (bs x2);rw[<-N]at HP⊢;clear N c';go_wp2_with fail;refine(HP _).mono ?_;rintro e Y5⟨rfl,dF⟩;replace G:=aa (G.out.au hg dF);clear dF HP;obtain⟨ip,b,lo,hi,er,UF,b0⟩:=ala x2;rw[UF];rw[b0]at HV;clear UF b0;have c0:=G.out.cell 0;have c1:=G.out.cell 1;have c2:=G.out.cell 2;have c3:=G.out.cell 3;have fj:=G.out.cell 4;have nD:=G.out.cell 5;have lv:=G.out.cell 6;have o4:=G.out.cell 7;have iX:=G.out.cell 8;simp only[bm,bZ,cK,cT,c7]at c0 c1 c2 c3 fj nD lv o4 iX;have f5:=G.out.b5 5;have f6:=G.out.b5 6;have f7:=G.out.b5 7;have f8:=G.out.b5 8;have HS:=aa ((((G.out.set 5 (I aj ip) ⟨a0,(9:Nat),0,0,⟨#[]⟩,⟨ip,0,0,0⟩⟩ (by rfl)).set 6 (I R b) ⟨a0,(9:Nat),0,0,⟨#[]⟩,⟨ip,b,0,0⟩⟩ (by rfl)).set 7 (I R lo) ⟨a0,(9:Nat),0,0,⟨#[]⟩,⟨ip,b,lo,0⟩⟩ (by rfl)).set 8 (I R hi) ⟨a0,(9:Nat),0,0,⟨#[]⟩,⟨ip,b,lo,hi⟩⟩ (by rfl));have aZ:=HS.out.ci;obtain⟨cc,gb⟩:=af (bm ⟨a0,(9:Nat),0,0,⟨#[]⟩,⟨ip,b,lo,hi⟩⟩);have mM:cc.all (·.oneCell')=true:=by rw[gb];exact ly _
  go_wp2_with(refine bK J 129 _ _ J w.heap.size cc J (by rw[gb];rfl) 129 _ aZ (by rw[gb];exact gP) (by rw[gb];rfl) mM ?_);refine ba (v:=aw cc) (kM J _ _ w.heap.size 129 cc (0,0) _ J (aV _ _ _ _ _ _ aZ) underlying129 J (by rw[gb];exact gP)) J ⟨?_,?_,?_⟩;.rw[HV.out,gb];rfl
  .rw[HV.out];exact(HS.out.j' _).1
  .exact(HS.out.j' _).2
 have Gk:¬(op:Int)=9:=by omega
 have HV:=aa (hr.out.trans ((if_neg h8).trans ((if_neg h9).trans (if_neg h7))));clear hr h7 h8 h9;go_wp2_with fail;refine yk (W0:=Y2.setCell ⟨r2,1,ab⟩ (I R (op:Nat))) (CX w g D w.heap.size r2 t2 ⟨a0,(op:Nat),0,0,⟨#[]⟩,bZ⟩) HS.out ?_;clear HS up zY;intro Y3 hY;have G:=aa hY;clear hY;refine(KI DY.out HUM.out g D hg _ G.out.ft G.out.ev).mono ?_;rintro e Y4⟨rfl,dF,c_⟩;replace G:=aa (G.out.step hg dF c_);clear dF c_;have c0:=G.out.cell 0;have c1:=G.out.cell 1;have c2:=G.out.cell 2;have c3:=G.out.cell 3;have fj:=G.out.cell 4;have nD:=G.out.cell 5;have lv:=G.out.cell 6;have o4:=G.out.cell 7;have iX:=G.out.cell 8;simp only[bm,bZ,cK,cT,c7]at c0 c1 c2 c3 fj nD lv o4 iX;have f2:=G.out.b5 2;have HS:=aa (G.out.set 2 (I ah uw) ⟨a0,(op:Nat),uw,0,⟨#[]⟩,bZ⟩ (by rfl));have aZ:=HS.out.ci;obtain⟨cc,gb⟩:=af (bm ⟨a0,(op:Nat),uw,0,⟨#[]⟩,bZ⟩);have mM:cc.all (·.oneCell')=true:=by rw[gb];exact ly _
 go_wp2_with(refine bK J 129 _ _ J w.heap.size cc J (by rw[gb];rfl) 129 _ aZ (by rw[gb];exact gP) (by rw[gb];rfl) mM ?_);refine ba (v:=aw cc) (kM J _ _ w.heap.size 129 cc (0,0) _ J (aV _ _ _ _ _ _ aZ) underlying129 J (by rw[gb];exact gP)) J ⟨?_,?_,?_⟩;.rw[HV.out,gb];rfl
 .rw[HV.out];exact(HS.out.j' _).1
 .exact(HS.out.j' _).2
theorem ajD(c:UInt8):∀l:W8,c∉l->kg l c=-1
 |l,h=>by
  cases hi:kg l c with
   |ofNat i=>have:=(SZ l c i hi);exact absurd (by rw[this.2];simp) h
   |negSucc i=>have:=Lib.index_ge l [c];rw[acx,hi]at this;omega
theorem Zn(c:UInt8):∀(k:Nat)(l:W8),l.count c<=k->acy [c] 0 k l=ck c l
 |0,l,h=>by rw[GI c l (List.count_eq_zero.1 (by omega))];rfl
 |k+1,l,h=>by
  by_cases hm:c∈l
  .obtain⟨a,b,rfl,ha⟩:=List.eq_append_cons_of_mem hm;have RH:Lib.index (a++c::b) [c]=a.length:=by rw[acx,Ow c b a ha]
   rw[acy,RH,if_neg (by simp),F1 c b a ha];have e1:(a++c::b).take ((a.length:Int).toNat+0)=a:=by simp
   have e2:(a++c::b).drop ((a.length:Int).toNat+[c].length)=b:=by simp[List.drop_append]
   rw[e1,e2,Zn c k b (by rw[List.count_append,List.count_cons_self]at h;omega)]
  .have RH:Lib.index l [c]=-1:=by rw[acx,ajD c l hm]
   rw[acy,RH,if_pos (by rfl),GI c l hm]
theorem ZW(s:ByteArray)(c:UInt8):(Lib.splitB ⟨#[c]⟩ 0 (FD s ⟨#[c]⟩) s)=(ck c s.data.toList).map bs:=by
 have h:=Lib.splitB_data ⟨#[c]⟩ 0 (FD s ⟨#[c]⟩) s;rw[show(⟨#[c]⟩:ByteArray).data.toList=[c]from J,Zn c _ _ (by show s.data.toList.count c<=Lib.count s.data.toList [c];rw[Lib.count_one];exact aA _)]at h;rw[<-h,List.map_map];conv=>lhs;rw[<-List.map_id (Lib.splitB ⟨#[c]⟩ 0 (FD s ⟨#[c]⟩) s)]
 exact List.map_congr_left fun x _=>(Dc x).symm
def o0(ws:List W8):Array ag:=(ws.map fun x=>ad (bs x)).toArray
theorem LV(s:ByteArray)(c:UInt8)(F:s.size<=9000)(w:ac)(hE:EV w):ap ae 49 #[ad s,ad ⟨#[c]⟩] w fun e w'=>e=aq (ak (U ⟨w.heap.size,0,ab⟩) (ck c s.data.toList).length (ck c s.data.toList).length)/\w'=w.alloc (.cells (o0 (ck c s.data.toList)) 9):=by
 obtain⟨m,hm⟩:=hE.QB;refine(Tryz.strings_Split s ⟨#[c]⟩ m w (by omega) hm (aA 1)).mono ?_;rintro e w'⟨rfl,rfl⟩;have hl:FD s ⟨#[c]⟩+1=(ck c s.data.toList).length:=by have:=Lib.splitB_all ⟨#[c]⟩ (aA 1) 0 _ s J;rw[ZW,oB]at this;exact this.symm
 rw[ZW,hl,List.map_map];exact⟨J,J⟩
theorem yd{c:UInt8}{l:W8}{n:Nat}(h:l.length<=n):∀x∈ck c l,x.length<=n:=by
 have key:∀l:W8,∀x∈ck c l,x.length<=l.length:=by
  intro l;induction l with
   |nil=>intro x hx;simp[ck]at hx;simp[hx]
   |cons al r ih=>
    intro x hx;unfold ck at hx;split at hx
    .rcases kh.1 hx with rfl|hx;.simp
     .have:=ih x hx;simp;omega
    .split at hx;.rw[jB]at hx;subst hx;simp
     .rename_i p t he;rcases kh.1 hx with rfl|hx;.have:=ih p (by rw[he];simp);simp;omega
      .have:=ih x (by rw[he];simp[hx]);simp;omega
 intro x hx;exact bL (key l x hx) h
theorem yI{c:UInt8}:∀l:W8,(ck c l).length<=l.length+1
 |[]=>by simp[ck]
 |al::r=>by
  have ih:=yI (c:=c) r;unfold ck;split;.simp;omega
  .split;.simp
   .rename_i p t he;rw[he]at ih;simp at ih⊢;omega
theorem Te(x:W8):kR x<18446744073709551616:=by
 have key:∀(l:W8)(dM ay:Nat),dM<18446744073709551616->FH (2^64-1) dM l= .ok ay->ay<18446744073709551616:=by
  intro l;induction l with
   |nil=>intro dM ay q h2;simp only[FH,Lib.NumEnd.ok.injEq]at h2;omega
   |cons c r ih=>
    intro dM ay q h2;rw[FH]at h2;split at h2
    .split at h2;.cases h2
     .split at h2;.cases h2
      .exact ih _ ay (by omega) h2
    .cases h2
 unfold kR;cases h:tM 64 x with
  |ok ay=>
   unfold tM at h;split at h;.cases h
   .exact key x 0 ay (by omega) h
  |«syntax»=>simp
  |range=>simp
theorem HB(n:Nat):mf (um n):=by unfold mf um;rw[jP];omega
theorem anl(x:W8):sq x<=9:=by
 unfold sq;cases h:cG.findIdx? (·==x)with
  |none=>simp
  |some i=>have:=(Jp h).2;simp[cG]at this⊢;omega
theorem ak_(x:W8):LF (Cj x):=by
 unfold Cj;cases h:ca x with
  |none=>exact wG
  |some p=>obtain⟨ip,b,lo,hi⟩:=p;obtain⟨bt,M,_⟩:=Fi h;have z:=rM M;exact⟨bt,eF (by omega),eF (by omega),eF (by omega)⟩
theorem YL(ws:List W8):jJ (mn ws).1:=by
 have ho:=anl (ws.tail.headD []);unfold mn;simp only;split;.exact⟨HB _,eF (by omega),by simp,by simp,wG⟩
 .split;.exact⟨HB _,eF (by omega),by simp,by simp,ak_ _⟩
  .split;.exact⟨HB _,eF (by omega),Te _,Te _,wG⟩
   .exact⟨HB _,eF (by omega),Te _,by simp,wG⟩
theorem XG(ws:List W8):Db (kG ws).1:=by
 unfold kG;split;.exact⟨eF (k:=1) (by omega),eF (k:=0) (by omega)⟩
 .split;.exact⟨eF (k:=3) (by omega),eF (k:=0) (by omega)⟩
  .split;.exact⟨eF (k:=2) (by omega),HB _⟩
   .exact⟨eF (k:=0) (by omega),eF (k:=0) (by omega)⟩
theorem Qb(x:W8):mf (j_ x):=by
 by_cases h:j_ x<0
 .unfold j_ at h⊢;cases M:mi.findIdx? (·==x)with
   |none=>unfold mf;simp
   |some i=>rw[M]at h;simp at h;omega
 .exact xL (by omega) (by have:=(US h).2;omega)
def gO(cs:List CD):List ag:=cs.flatMap fun c=>(bm c).toList
theorem KP:∀cs:List CD,(gO cs).length=cs.length*9|[]=>J|c::r=>by have:=KP r;simp only[gO,JK,cl,fh]at this⊢;rw[this,show(bm c).toList.length=9 from J];omega
theorem R2(cs:List CD)(c:CD):gO (cs++[c])=gO cs++(bm c).toList:=by simp[gO]
theorem Kd:∀(cs:List CD)(i:Nat)(c:CD)(j:Nat),cs[i]?=U c->j<9->(gO cs)[i*9+j]?=(bm c).toList[j]?|[],i,c,j,h,_=>by simp at h|x::r,0,c,j,h,hj=>by simp only[cT,cm]at h;subst h;simp only[gO,JK];rw[vG (by rw[show(bm x).toList.length=9 from J];omega)];congr 1;omega|x::r,i+1,c,j,h,hj=>by rw[c7]at h;have ih:=Kd r i c j h hj;simp only[gO,JK]at ih⊢;rw[vF (by rw[show(bm x).toList.length=9 from J];omega),show(bm x).toList.length=9 from J,show(i+1)*9+j-9=i*9+j by omega];exact ih
theorem Mz{W:ac}{base:Nat}{v:ag}{cs:List CD}(h:W.ownsRow base 129 9 v cs.length (gO cs))(bh:∀c∈cs,jJ c):∃oa cap,v=ak oa cs.length cap/\cs.length<=cap/\cap<=maxLen/\jV oa cs W/\∀b off,oa=U ⟨b,off,ab⟩->base<=b/\b<W.heap.size:=by
 have h':=h;rcases h.2 with⟨rfl,u⟩|⟨g,cap,co,rfl,hb,hg,q,h2,h3,h4⟩;.refine⟨ab,0,by rw[u],by omega,by unfold maxLen;omega,⟨fun h0=>by omega⟩,fun b off e=>by cases e⟩
 .refine⟨_,cap,J,q,h2,⟨fun h0=>⟨g,0,J,(h'.lt g J).2,fun i c H=>?_⟩⟩,fun b off e=>by simp only[cm,Addr.mk.injEq]at e;have:=(h'.lt g J).2;omega⟩;have dX:∀j ay,j<9->(bm c).toList[j]?=U ay->W.cell? ⟨g,0+i*9+j,ab⟩=U ay:=fun j ay hj hu=>by have h5:=h'.cells (g:=g) J (i*9+j) ay (by rw[Kd cs i c j H hj];exact hu);rwa[show(⟨g,0,ab⟩:bl).add (i*9+j)=⟨g,0+i*9+j,ab⟩by unfold Addr.add;split<;>simp_all]at h5
  exact⟨dX 0 _ (by omega) J,dX 1 _ (by omega) J,dX 2 _ (by omega) J,dX 3 _ (by omega) J,dX 4 _ (by omega) J,dX 5 _ (by omega) J,dX 6 _ (by omega) J,dX 7 _ (by omega) J,dX 8 _ (by omega) J,bh c (iy H)⟩
theorem KA:∃i,ae.info? 129=U i/\i.zero=U (aw (bm cu))/\i.size=9/\i.bytes=80:=by
 have hz:(ae.info? 129).map (·.zero)=U (U (aw (bm cu))):=by kernel_rfl
 have F:(ae.info? 129).map (·.size)=U 9:=by kernel_rfl
 have hb:(ae.info? 129).map (·.bytes)=U 80:=by kernel_rfl
 cases N:ae.info? 129 with
  |none=>rw[N]at F;simp at F
  |some i=>rw[N]at hz F hb;simp at hz F hb;exact⟨i,J,hz,F,hb⟩
theorem B6:(ae.info? 54).map (·.size)=U 4:=by kernel_rfl
def cD(nr:Int)(E:ag)(a:bG):Array ag:=#[I R nr,E,I R a.aF,I R a.aU]
structure RX(w:ac)(g D r1 r4:Nat)(ws:List W8)(nr:Int)(cs:List CD)(a:bG)(E:ag)(X:ac):Prop where
 ft:fo X g D ws
 below:Below w.heap.size w X
 ci:X.heap[r1]?=U (.cells (cD 0 (ak ab 0 0) ⟨0,0⟩) 54 (0,0))
 row:X.heap[r4]?=U (.cells (cD nr E a) 54 (0,0))
 cW:X.ownsRow (r4+1) 129 9 E cs.length (gO cs)
 le:w.heap.size<=r1/\r1<g/\g<D/\D<=r4/\7<=g
 ev:EV X
theorem b4.grown{g:Nat}{w w':ac}(h:b4 g w w'):w.grownBy w' (U g):=⟨h.os,h.tape,h.output,h.size,fun k z u=>h.block k z (fun e=>u (by rw[e]))⟩
theorem RX.step{w:ac}{g D r1 r4:Nat}{ws o3:List W8}{nr:Int}{cs:List CD}{a:bG}{E:ag}{X Y:ac}(h:RX w g D r1 r4 ws nr cs a E X)(hY:fo Y g D o3)(hb:b4 g X Y):RX w g D r1 r4 o3 nr cs a E Y:=by
 have q:=(bM.1 h.ci).1;have h2:=(bM.1 h.row).1;have hl:=h.le;have F:=h.below.size;refine⟨hY,hb.below h.below (by omega) F,(hb.block r1 q (by omega)).trans h.ci,(hb.block r4 h2 (by omega)).trans h.row,h.cW.kept hb.grown ?_,h.le,h.ev.sy hl.2.2.2.2 hb⟩;by_cases he:E.ownBlock=U g;.have:=(h.cW.lt g he).1;omega
 .exact .inr he
theorem RX.au{w:ac}{g D r1 r4:Nat}{ws:List W8}{nr:Int}{cs:List CD}{a:bG}{E:ag}{X Y:ac}(h:RX w g D r1 r4 ws nr cs a E X)(hb:Below X.heap.size X Y):RX w g D r1 r4 ws nr cs a E Y:=h.step (h.ft.au hb) (b4.bk hb)
theorem RX.cell{w:ac}{g D r1 r4:Nat}{ws:List W8}{nr:Int}{cs:List CD}{a:bG}{E:ag}{X:ac}(h:RX w g D r1 r4 ws nr cs a E X)(j:Nat):X.cell? ⟨r4,j,ab⟩=(cD nr E a)[j]?:=aT _ _ j _ _ _ h.row
theorem RX.b5{w:ac}{g D r1 r4:Nat}{ws:List W8}{nr:Int}{cs:List CD}{a:bG}{E:ag}{X:ac}(h:RX w g D r1 r4 ws nr cs a E X)(j:Nat):X.frozen? ⟨r4,j,ab⟩=false:=cy _ _ j _ _ h.row
theorem Xp{X:ac}{g D:Nat}{ws:List W8}(h:fo X g D ws):∃oa cap,X.cell? ⟨g,0,ab⟩=U (ak oa ws.length cap)/\ws.length<=9223372036854775807:=by obtain⟨oa,cap,q,h2,h3,_⟩:=h.sr;unfold maxLen at h3;exact⟨oa,cap,q,by omega⟩
structure Fh(w:ac)(g D r1 r4:Nat)(ws:List W8)(nr:Int)(a:bG)(E:ag)(X:ac):Prop where
 ft:fo X g D ws
 below:Below w.heap.size w X
 ci:X.heap[r1]?=U (.cells (cD 0 (ak ab 0 0) ⟨0,0⟩) 54 (0,0))
 row:X.heap[r4]?=U (.cells (cD nr E a) 54 (0,0))
 le:w.heap.size<=r1/\r1<g/\g<D/\D<=r4/\7<=g
 ev:EV X
theorem RX.cx{w:ac}{g D r1 r4:Nat}{ws:List W8}{nr:Int}{cs:List CD}{a:bG}{E:ag}{X:ac}(h:RX w g D r1 r4 ws nr cs a E X):Fh w g D r1 r4 ws nr a E X:=⟨h.ft,h.below,h.ci,h.row,h.le,h.ev⟩
theorem Fh.grown{w:ac}{g D r1 r4:Nat}{ws:List W8}{nr:Int}{a:bG}{E:ag}{X Y:ac}{row:Option Nat}(h:Fh w g D r1 r4 ws nr a E X)(o:Obj)(hg:(X.alloc o).grownBy Y row)(L:∀k,row=U k->r4+1<=k):Fh w g D r1 r4 ws nr a E Y:=by have h4:=(bM.1 h.row).1;have hl:=h.le;have hb:∀k,k<X.heap.size->k<=r4->Y.heap[k]?=X.heap[k]?:=fun k z hk4=>(hg.block k (by rw[bA];omega) (fun e=>by have:=L k e.symm;omega)).trans ((ai X o).block k z);have F:X.heap.size<=Y.heap.size:=bL (ai X o).size hg.size;exact⟨h.ft.heap (bL h.ft.le F) fun k z=>hb k (dk z h.ft.le) (by omega),h.below.trans ⟨hg.os,hg.tape,hg.output,F,fun k z=>hb k (by have:=h.below.size;omega) (by omega)⟩,(hb r1 (by omega) (by omega)).trans h.ci,(hb r4 h4 (by omega)).trans h.row,h.le,h.ev.heap fun k z=>hb k (by have:=h.ev.lt;omega) (by omega)⟩
theorem Fh.set{w:ac}{g D r1 r4:Nat}{ws:List W8}{nr nr':Int}{a:bG}{E sv':ag}{X:ac}(h:Fh w g D r1 r4 ws nr a E X)(j:Nat)(v:ag)(H:(cD nr E a).setIfInBounds j v=cD nr' sv' a)(mZ:List CD)(ho:X.ownsRow (r4+1) 129 9 sv' mZ.length (gO mZ)):RX w g D r1 r4 ws nr' mZ a sv' (X.setCell ⟨r4,j,ab⟩ v):=by
 have hl:=h.le;rw[cJ _ _ j _ _ _ _ h.row,H];have F:=h.below.size;have Ed:b4 r4 X (X.setRow r4 (cD nr' sv' a)):=⟨J,J,J,by rw[iz];exact aA _,fun k _ u=>ij X r4 k _ u⟩;refine⟨h.ft.row (by omega) _,Ed.below h.below (by omega) F,(CV _ _ _ _ (by omega)).trans h.ci,aV _ _ _ _ _ _ h.row,ho.kept Ed.grown ?_,h.le,h.ev.heap fun k z=>ij X r4 k _ (by omega)⟩;by_cases he:sv'.ownBlock=U r4;.have:=(ho.lt r4 he).1;omega
 .exact .inr he
theorem RX.j'{w:ac}{g D r1 r4:Nat}{ws:List W8}{nr:Int}{cs:List CD}{a:bG}{E:ag}{X:ac}(h:RX w g D r1 r4 ws nr cs a E X)(v:Array ag):Below w.heap.size w (X.setRow r1 v)/\(X.setRow r1 v).ownsRow (r4+1) 129 9 E cs.length (gO cs):=by
 have hl:=h.le;have F:=h.below.size;have bb:b4 r1 X (X.setRow r1 v):=⟨J,J,J,by rw[iz];exact aA _,fun k _ u=>ij X r1 k _ u⟩;refine⟨bb.below h.below (by omega) F,h.cW.kept bb.grown ?_⟩;by_cases he:E.ownBlock=U r1;.have:=(h.cW.lt r1 he).1;omega
 .exact .inr he
theorem Zv(V:ac)(ws:List W8)(F:∀x∈ws,x.length<=9000)(hl:ws.length<=9001):fo ((V.alloc (.cells (o0 ws) 9)).alloc (.cells #[ak (U ⟨V.heap.size,0,ab⟩) ws.length ws.length] 143)) (V.heap.size+1) (V.heap.size+2) ws:=by
 have q:=AT (V.alloc (.cells (o0 ws) 9)) #[ak (U ⟨V.heap.size,0,ab⟩) ws.length ws.length] 143 0;rw[bA]at q;refine⟨⟨_,ws.length,q,aA _,by unfold maxLen;omega,fun h0=>⟨V.heap.size,0,J,by omega,by omega,fun i x hi=>?_⟩⟩,?_,by omega,by rw[bA,bA];omega,F⟩;.refine ao (ai _ _) ?_;rw[AT];unfold o0;simp[hi]
 .have h2:=World.frozen?_alloc_new (V.alloc (.cells (o0 ws) 9)) #[ak (U ⟨V.heap.size,0,ab⟩) ws.length ws.length] 143 0;rwa[bA]at h2
theorem RX.start{w V X:ac}{ws:List W8}(a:bG)(g:Nat)(hgV:g=w.heap.size+2)(dp:Below w.heap.size w V)(g7:V.heap[w.heap.size]?=U (.cells (cD 0 (ak ab 0 0) ⟨0,0⟩) 54 (0,0)))(jt:w.heap.size+3<=V.heap.size)(Ps:EV V)(h7:7<=w.heap.size)(hX:fo X g (g+1) ws)(gj:b4 g V X):RX w g (g+1) w.heap.size X.heap.size ws 0 [] a (ak ab 0 0) (X.alloc (.cells (cD 0 (ak ab 0 0) a) 54)):=by have F:=gj.size;refine⟨hX.au (ai _ _),(gj.below dp (by omega) (by omega)).alloc (by omega) _,(((ai X _).block w.heap.size (by omega)).trans (gj.block w.heap.size (by omega) (by omega))).trans g7,a7 _ _,lj _ _ _ _,⟨aA _,by omega,by omega,by omega,by omega⟩,(Ps.sy (by omega) gj).au (ai _ _)⟩
theorem WM:∀(n m:Nat)(l:List W8),l.length<=n->l.length<=m->kN n l=kN m l
 |0,m,l,u,_=>by rw[CY.1 (show l.length=0 by omega)];cases m<;>simp[kN]
 |n+1,0,l,_,hm=>by rw[CY.1 (show l.length=0 by omega)];simp[kN]
 |n+1,m+1,l,u,hm=>by
  rw[kN,kN];by_cases h:l=[];.rw[if_pos h,if_pos h]
  .have hp:=AP.2 h;have hl:=SG l.tail;rw[C2]at hl;rw[if_neg h,if_neg h,WM n m _ (by omega) (by omega)]
theorem aid{l:List W8}(h:l≠[]):kN l.length l=(mn l.tail).1::kN (mn l.tail).2.length (mn l.tail).2:=by have hp:=AP.2 h;have hl:=SG l.tail;rw[C2]at hl;obtain⟨n,u⟩:∃n,l.length=n+1:=⟨l.length-1,by omega⟩;rw[u,kN,if_neg h,WM n _ _ (by omega) (aA _)]
theorem aoI(l:List W8):(kG l).2.length<=l.length:=by
 unfold kG;split;.simp
 .split;.simp
  .split;.simp;omega
   .simp
def Jv(g:Nat)(w:ac):Nat:=match w.cell? ⟨g,0,ab⟩with|U (ak _ n _)=>n|_=>0
theorem XL{X:ac}{g D:Nat}{ws:List W8}(h:fo X g D ws):Jv g X=ws.length:=by obtain⟨oa,cap,q,_⟩:=h.sr;unfold Jv;rw[q]
set_option maxHeartbeats 4000000 in set_option maxRecDepth 100000 in theorem aeU(bp:W8)(ve:bp.length<=9000)(w:ac)(hE:EV w):ap ae 53 #[ad (bs bp)] w fun e w'=>(∃oa cap,e=aq (lW (lG bp) oa cap)/\(lG bp).bq.length<=cap/\cap<=maxLen/\jV oa (lG bp).bq w'/\∀b off,oa=U ⟨b,off,ab⟩->w.heap.size<=b/\b<w'.heap.size)/\Below w.heap.size w w':=by
 obtain⟨ws,e8⟩:=af (ck 32 bp);have h7:=hE.lt;obtain⟨V0,dR,q6,fM,iA⟩:∃V,V=w.alloc (.cells #[I R 0,ak ab 0 0,I R 0,I R 0] 54)/\V.heap[w.heap.size]?=U (.cells (cD 0 (ak ab 0 0) ⟨0,0⟩) 54 (0,0))/\Below w.heap.size w V/\V.heap.size=w.heap.size+1:=⟨_,J,a7 _ _,ai _ _,by rw[bA]⟩;have HS:=LV (bs bp) 32 (by rw[ct];exact ve) V0 (hE.au fM);rw[fy,<-e8]at HS;have tp:ws.length<=9001:=by rw[e8];have:=yI (c:=32) bp;omega
 have s4:∀x∈ws,x.length<=9000:=by rw[e8];exact yd ve
 obtain⟨B,N⟩:=af (bs bp);rw[<-N]at HS⊢;obtain⟨V,hV,CS,dp,g7,jt,A3⟩:∃V,V=(V0.alloc (.cells (o0 ws) 9)).alloc (.cells #[ak (U ⟨V0.heap.size,0,ab⟩) ws.length ws.length] 143)/\fo V (w.heap.size+2) (w.heap.size+3) ws/\Below w.heap.size w V/\V.heap[w.heap.size]?=U (.cells (cD 0 (ak ab 0 0) ⟨0,0⟩) 54 (0,0))/\w.heap.size+3<=V.heap.size/\EV V:=by have dB:Below V0.heap.size V0 ((V0.alloc (.cells (o0 ws) 9)).alloc (.cells #[ak (U ⟨V0.heap.size,0,ab⟩) ws.length ws.length] 143)):=ax (ai _ _) (ai _ _);refine⟨_,J,?_,ax fM dB,(dB.block _ (by omega)).trans q6,by rw[bA,bA];omega,(hE.au fM).au dB⟩;rw[show w.heap.size+2=V0.heap.size+1 by omega,show w.heap.size+3=V0.heap.size+2 by omega];exact Zv V0 ws s4 tp
 obtain⟨g,hg⟩:=af (w.heap.size+2);rw[<-hg,show w.heap.size+3=g+1 by omega]at CS;have HA:=aaB ws g (g+1) (by omega) V CS A3;have HGG:=aa hg;clear hg;obtain⟨n0,yb⟩:=af ws.length;obtain⟨a,ha⟩:=af (kG ws).1;obtain⟨t1,mO⟩:=af (kG ws).2;rw[<-ha,<-mO]at HA;have m7:t1.length<=9001:=by rw[mO];exact bL (aoI ws) tp
 obtain⟨x1,fT⟩:=af (t1.headD []);obtain⟨t2,zN⟩:=af t1.tail;obtain⟨nr,b0⟩:=af (j_ x1);have Sy:=adf x1;rw[<-b0]at Sy;have bc:=aa (show lG bp=⟨nr,kN t2.length t2,a⟩by unfold lG;simp only;rw[<-e8,<-ha,<-mO,b0,fT,zN]);have OX:=aa zN;have HL2:=aa (show t2.length<=9001 by rw[zN,C2];omega);clear m7;have jY:=aa fT;rw[<-yb]at HS hV;clear e8 N hE ha mO fT zN b0 ve yb tp s4;go_enter func53,ntmps53;go_wp2_with fail;rw[show w.alloc (Obj.cells #[I R 0,ak ab 0 0,I R 0,I R 0] 54)=V0 from dR.symm];refine HS.mono ?_;rintro e W1⟨rfl,rfl⟩;clear HS dR;go_wp2_with fail;rw[iA]at hV;rw[show(V0.alloc (.cells (o0 ws) 9)).alloc (.cells #[ak (U ⟨w.heap.size+1,0,ab⟩) n0 n0] 143)=V from hV.symm,show w.heap.size+1+1=g by have:=HGG.out;omega];refine HA.mono ?_;rintro e X⟨rfl,hX,gj⟩;clear hV HA;obtain⟨aN,aP⟩:=a;unfold fe;simp only;go_wp2_with fail;refine yk (W0:=X.alloc (.cells #[I R 0,ak ab 0 0,I R aN,I R aP] 54)) (RX w g (g+1) w.heap.size X.heap.size t1 0 [] ⟨aN,aP⟩ (ak ab 0 0)) (RX.start ⟨aN,aP⟩ g HGG.out dp g7 jt A3 h7 hX gj) ?_;obtain⟨r4,zu⟩:=af X.heap.size;rw[<-zu];clear hX gj zu CS dp g7 jt A3 q6 fM iA;intro Y hY;have G:=aa hY;clear hY;refine(BP OX.out jY.out g (g+1) Y G.out.ft).mono ?_;rintro e Y1⟨rfl,dF,c_⟩;replace G:=aa (G.out.step dF c_);clear dF c_;go_wp2_with fail;refine(Sy _).mono ?_;rintro e Y2⟨rfl,dF⟩;replace G:=aa (G.out.au dF);clear dF Sy;have up:=G.out.cell 0;have zY:=G.out.b5 0;simp only[cD,cK,cT]at up;have HS:=aa (G.out.cx.set 0 (I R nr) (nr':=nr) (sv':=ak ab 0 0) (by rfl) [] (lj _ _ _ _));clear G;obtain⟨oaG,apz,alx,hmG⟩:=Xp HS.out.ft;go_wp2;go_loopw[12](fun _ w'=>∃(o3:List W8)(cs:List CD)(E:ag),Hid (RX w g (g+1) w.heap.size r4 o3 nr cs ⟨aN,aP⟩ E w')/\Hid (cs++kN o3.length o3=kN t2.length t2)/\Hid (cs.length+o3.length<=9001)/\Hid (∀c∈cs,jJ c))(fun _ w'=>Jv g w');case atStart=>exact⟨t2,[],ak ab 0 0,HS,aa J,aa (by have:=HL2.out;simpa using this),aa (fun c H=>by cases H)⟩
 case round=>
  obtain⟨o3,cs,E,G,HI,ff,kz⟩:=hrel;clear alx hmG HS up zY;obtain⟨oa,cap,abe,hmx⟩:=Xp G.out.ft;have cY:=XL G.out.ft;obtain⟨n',A4⟩:=af o3.length;rw[<-A4]at abe hmx cY;have HN:=aa A4;clear A4;by_cases hz:n'=0
  .subst hz;have YJ:o3=[]:=CY.1 HN.out.symm;have HCS:=aa (show lG bp=⟨nr,cs,⟨aN,aP⟩⟩by rw[bc.out];have:=HI.out;rw[YJ]at this;simp only[nI,kN,ry]at this;rw[<-this]);have c0:=G.out.cell 0;have c1:=G.out.cell 1;have c2:=G.out.cell 2;have c3:=G.out.cell 3;simp only[cD,cK,cT,c7]at c0 c1 c2 c3;obtain⟨oc,cc,Cu,eW,jZ,_,_⟩:=Mz G.out.cW kz.out;subst Cu;have aZ:=G.out.ci;obtain⟨rc,cC⟩:∃rc:Array ag,rc=cD nr (ak oc cs.length cc) ⟨aN,aP⟩:=⟨_,J⟩;have mM:rc.all (·.oneCell')=true:=by rw[cC];simp[cD,fG]
   clear YJ;go_wp2_with(refine bK J 54 _ _ J w.heap.size rc J (by rw[cC];rfl) 54 _ aZ (by rw[cC];exact B6) (by rw[cC];rfl) mM ?_);refine ba (v:=aw rc) (kM J _ _ w.heap.size 54 rc (0,0) _ J (aV _ _ _ _ _ _ aZ) underlying54 J (by rw[cC];exact B6)) J ⟨?_,(G.out.j' _).1⟩;obtain⟨Xc,Wb,zC,_,_,y6,it⟩:=Mz (G.out.j' rc).2 kz.out;simp only[Value.slice.injEq]at zC;obtain⟨rfl,_,rfl⟩:=zC;rw[HCS.out];exact⟨oc,cc,by rw[cC];rfl,eW,jZ,y6,fun b off e=>by have q:=it b off e;have h2:=G.out.le;exact⟨by omega,q.2⟩⟩
  .have i1:(0:Int)<n':=by omega
   have bo:o3≠[]:=fun e=>hz (by rw[HN.out,e];rfl);have bN:=aid bo;obtain⟨t3,Af⟩:=af o3.tail;obtain⟨x3,pY⟩:=af (o3.headD []);obtain⟨c,H⟩:=af (mn t3).1;obtain⟨t4,zq⟩:=af (mn t3).2;have ni:=fun X q h2=>ann t3 g (g+1) G.out.le.2.2.2.2 X q h2;rw[<-H,<-zq]at ni;have zJ:jJ c:=by rw[H];exact YL t3
   have ux:t4.length+1<=n':=by have q:=SG t3;rw[<-zq,Af,C2]at q;have:=HN.out;omega
   rw[<-Af,<-H,<-zq]at bN;have j4:=aa (show(cs++[c])++kN t4.length t4=kN t2.length t2 by rw[<-HI.out,bN,List.append_assoc];rfl);have Cc:=aa (show(cs++[c]).length+t4.length<=9001 by have q:=ff.out;have h2:=HN.out;rw[cl,gH];omega);have GJ:=aa (show∀al∈cs++[c],jJ al from fun al hy=>by
    rcases jC.1 hy with h|h;.exact kz.out al h
    .rw[jB]at h;rw[h];exact zJ);have DY:=aa Af;have zE:=aa pY;have HL4:=aa ux;clear bN H zq Af pY zJ ux bo HI kz hz;go_wp2_with fail;refine(BP DY.out zE.out g (g+1) _ G.out.ft).mono ?_;rintro e Y1⟨rfl,dF,c_⟩;replace G:=aa ((G.out.step dF c_).au (aS _ Y1).drew);clear dF c_ abe;obtain⟨a6,op,v,m,gl,⟨ip,cV,lo,hh⟩⟩:=c;unfold e9 at ni;simp only at ni;obtain⟨eq,d8,dh,dD,dz⟩:=KA;have Ex:=G.out.cell 1;simp only[cD,cK,cT,c7]at Ex;have eW:cs.length<=9001:=by have:=ff.out;omega
   go_wp2_with fail;go_region_law(first|(go_simp;go_at_call 89;refine(ni _ G.out.ft G.out.ev).mono ?_;rintro e w1⟨rfl,dF,c_⟩;have HD:=aa (G.out.step dF c_);have Gv:w1.cell? ⟨r4,1,ab⟩=U E:=HD.out.cell 1;have zj:r4<w1.heap.size:=oA Gv;clear dF c_)|(refine step_append_lies _ (by rfl) _ _ _ (by rfl) (r4+1) 129 eq _ 9 80 underlying52 d8 dh dD dz J (by omega) E cs.length (gO cs) (by rfl) (HD.out.cW.alloc _) ⟨w1.heap.size,0,ab⟩ 1 1 [I R a6,I R op,I ah v,I ah m,ad gl,I aj ip,I R cV,I R lo,I R hh] (by rfl) (by rfl) (lS (cs:=#[I R a6,I R op,I ah v,I ah m,ad gl,I aj ip,I R cV,I R lo,I R hh]) (t:=129) (fr:=(0,0)) (a7 w1 _)) (by simp[fG]) (by omega) (by simp only[maxLen];omega) (by omega) (by have:=(bM.1 HD.out.row).1;rw[bA];omega) (w1.heap.size+1) (by simp) ?_;intro gg bS w2 du bU bE d6;have HW:=aa (HD.out.cx.grown _ bU (fun k z=>(HD.out.cW.lt k z).1));have HO:=aa du;have jT:w2.cell? ⟨r4,1,ab⟩=U E:=aT _ _ 1 _ _ _ HW.out.row;have j7:w2.frozen? ⟨r4,1,ab⟩=false:=cy _ _ 1 _ _ HW.out.row;clear du bU bE d6));all_goals
    have dC:=aa (HW.out.set 1 (ak (U ⟨gg,0,ab⟩) (cs.length+1) bS) (nr':=nr) (sv':=ak (U ⟨gg,0,ab⟩) (cs.length+1) bS) (by rfl) (cs++[⟨a6,op,v,m,gl,⟨ip,cV,lo,hh⟩⟩]) (by rw[cl,gH,R2];exact HO.out));have Cr:Jv g (w2.setCell ⟨r4,1,ab⟩ (ak (U ⟨gg,0,ab⟩) (cs.length+1) bS))<Jv g wr:=by rw[XL dC.out.ft,cY];have:=HL4.out;omega
    clear cY Gv jT j7 zj HO HW HD;go_wp2;go_round;case rel=>exact⟨t4,_,_,dC,j4,Cc,GJ⟩
    case measure=>exact Cr
theorem Xr:∀(n:Nat)(l:List W8),∀c∈kN n l,jJ c
 |0,_,c,h=>by cases h
 |n+1,l,c,h=>by
  rw[kN]at h;split at h;.cases h
  .rcases kh.1 h with rfl|h;.exact YL _
   .exact Xr n _ c h
theorem aa6(bp:W8):uJ (lG bp):=⟨Qb _,Xr _ _,XG _⟩
theorem ZC(s:W8):I4 (rC s):=⟨fun r L=>by unfold rC at L;obtain⟨l,_,rfl⟩:=List.mem_map.1 L;exact aa6 l,XG _⟩
abbrev RE:=RL×Option bl×Nat
def B5(e:RE):Array ag:=cD e.1.nr (ak e.2.1 e.1.bq.length e.2.2) e.1.dO
def qH(es:List RE):List ag:=es.flatMap fun e=>(B5 e).toList
theorem Zr(es:List RE)(e:RE):qH (es++[e])=qH es++(B5 e).toList:=by simp[qH]
theorem Wz:∀(es:List RE)(i:Nat)(e:RE)(j:Nat),es[i]?=U e->j<4->(qH es)[i*4+j]?=(B5 e).toList[j]?|[],i,e,j,h,_=>by simp at h|x::r,0,e,j,h,hj=>by simp only[cT,cm]at h;subst h;simp only[qH,JK];rw[vG (by rw[show(B5 x).toList.length=4 from J];omega)];congr 1;omega|x::r,i+1,e,j,h,hj=>by rw[c7]at h;have ih:=Wz r i e j h hj;simp only[qH,JK]at ih⊢;rw[vF (by rw[show(B5 x).toList.length=4 from J];omega),show(B5 x).toList.length=4 from J,show(i+1)*4+j-4=i*4+j by omega];exact ih
theorem jV.heap{oa:Option bl}{cs:List CD}{W V:ac}(h:jV oa cs W)(hb:∀b off,oa=U ⟨b,off,ab⟩->b<W.heap.size->V.heap[b]?=W.heap[b]?)(F:W.heap.size<=V.heap.size):jV oa cs V:=⟨fun h0=>by obtain⟨b,off,q,h2,h3⟩:=h.ez h0;exact⟨b,off,q,dk h2 F,fun i c hi=>(h3 i c hi).au fun j=>dt (hb b off q h2) j⟩⟩
def xK(r5:Nat)(E:ag)(es:List RE)(X:ac):Prop:=∀e∈es,uJ e.1/\jV e.2.1 e.1.bq X/\e.1.bq.length<=e.2.2/\e.2.2<=maxLen/\∀b off,e.2.1=U ⟨b,off,ab⟩->r5<b/\E.ownBlock≠U b/\b<X.heap.size
theorem S3{W:ac}{base r5:Nat}{v:ag}{es:List RE}(h:W.ownsRow base 54 4 v es.length (qH es))(H:xK r5 v es W):∃oa cap,v=ak oa es.length cap/\es.length<=cap/\cap<=maxLen/\xB oa (es.map (·.1)) W:=by
 have h':=h;rcases h.2 with⟨rfl,u⟩|⟨g,cap,co,rfl,hb,hg,q,h2,h3,h4⟩;.exact⟨ab,0,by rw[u],by omega,by unfold maxLen;omega,⟨fun h0=>by rw[oB]at h0;omega⟩⟩
 .refine⟨_,cap,J,q,h2,⟨fun h0=>⟨g,0,J,(h'.lt g J).2,fun i r L=>?_⟩⟩⟩;rw[List.getElem?_map]at L;cases he:es[i]? with
   |none=>rw[he]at L;cases L
   |some e=>
    rw[he]at L;simp only[Option.map_some,cm]at L;subst L;have dX:∀j ay,j<4->(B5 e).toList[j]?=U ay->W.cell? ⟨g,0+i*4+j,ab⟩=U ay:=fun j ay hj hu=>by have h5:=h'.cells (g:=g) J (i*4+j) ay (by rw[Wz es i e j he hj];exact hu);rwa[show(⟨g,0,ab⟩:bl).add (i*4+j)=⟨g,0+i*4+j,ab⟩by unfold Addr.add;split<;>simp_all]at h5
    obtain⟨q1,q2,q3,q4,_⟩:=H e (iy he);exact⟨e.2.1,e.2.2,dX 0 _ (by omega) J,dX 1 _ (by omega) J,dX 2 _ (by omega) J,dX 3 _ (by omega) J,q2,q3,q4,q1⟩
theorem S4:∃i,ae.info? 54=U i/\i.zero=U (aw (cD 0 (ak ab 0 0) ⟨0,0⟩))/\i.size=4/\i.bytes=48:=by
 have hz:(ae.info? 54).map (·.zero)=U (U (aw (cD 0 (ak ab 0 0) ⟨0,0⟩))):=by kernel_rfl
 have F:(ae.info? 54).map (·.size)=U 4:=by kernel_rfl
 have hb:(ae.info? 54).map (·.bytes)=U 48:=by kernel_rfl
 cases N:ae.info? 54 with
  |none=>rw[N]at F;simp at F
  |some i=>rw[N]at hz F hb;simp at hz F hb;exact⟨i,J,hz,F,hb⟩
theorem pZ:(ae.info? 32).map (·.size)=U 3:=by kernel_rfl
def iW(E:ag)(a:bG):Array ag:=#[E,I R a.aF,I R a.aU]
structure QX(w:ac)(r1 r5 ov:Nat)(ls:List W8)(a:bG)(E:ag)(X:ac):Prop where
 below:Below w.heap.size w X
 ci:X.heap[r1]?=U (.cells (iW (ak ab 0 0) ⟨0,0⟩) 32 (0,0))
 row:X.heap[r5]?=U (.cells (iW E a) 32 (0,0))
 wu:∀i x,ls[i]?=U x->X.cell? ⟨ov,i,ab⟩=U (ad (bs x))
 le:w.heap.size<=r1/\r1<ov/\ov<r5/\7<=w.heap.size
 ev:EV X
theorem QX.heap{w:ac}{r1 r5 ov:Nat}{ls:List W8}{a:bG}{E:ag}{X Y:ac}(h:QX w r1 r5 ov ls a E X)(ho:Y.os=X.os/\Y.tape=X.tape/\Y.output=X.output)(F:X.heap.size<=Y.heap.size)(hb:∀k,k<=r5->Y.heap[k]?=X.heap[k]?):QX w r1 r5 ov ls a E Y:=by have hl:=h.le;exact⟨h.below.trans ⟨ho.1,ho.2.1,ho.2.2,F,fun k z=>hb k (by omega)⟩,(hb r1 (by omega)).trans h.ci,(hb r5 (aA _)).trans h.row,fun i x hi=>(dt (hb ov (by omega)) i).trans (h.wu i x hi),h.le,h.ev.heap fun k z=>hb k (by omega)⟩
theorem QX.au{w:ac}{r1 r5 ov:Nat}{ls:List W8}{a:bG}{E:ag}{X Y:ac}(h:QX w r1 r5 ov ls a E X)(hb:Below X.heap.size X Y):QX w r1 r5 ov ls a E Y:=h.heap ⟨hb.os,hb.tape,hb.output⟩ hb.size fun k z=>hb.block k (by have:=(bM.1 h.row).1;omega)
theorem QX.set{w:ac}{r1 r5 ov:Nat}{ls:List W8}{a:bG}{E:ag}{X:ac}(h:QX w r1 r5 ov ls a E X)(sv':ag):QX w r1 r5 ov ls a sv' (X.setCell ⟨r5,0,ab⟩ sv'):=by have hl:=h.le;rw[cJ _ _ 0 _ _ _ _ h.row,show(iW E a).setIfInBounds 0 sv'=iW sv' a from J];have hb:∀k,k≠r5->(X.setRow r5 (iW sv' a)).heap[k]?=X.heap[k]?:=fun k z=>ij X r5 k _ z;exact⟨h.below.trans ⟨J,J,J,by rw[iz];exact aA _,fun k z=>hb k (by omega)⟩,(hb r1 (by omega)).trans h.ci,aV _ _ _ _ _ _ h.row,fun i x hi=>(dt (hb ov (by omega)) i).trans (h.wu i x hi),h.le,h.ev.heap fun k z=>hb k (by omega)⟩
theorem XV{r5:Nat}{E:ag}{es:List RE}{X0 X1 Y:ac}{e:RE}{o:Obj}{gg n cap:Nat}(h:xK r5 E es X0)(hb:Below X0.heap.size X0 X1)(he:uJ e.1/\jV e.2.1 e.1.bq X1/\e.1.bq.length<=e.2.2/\e.2.2<=maxLen/\∀b off,e.2.1=U ⟨b,off,ab⟩->X0.heap.size<=b/\b<X1.heap.size)(h5:r5<X0.heap.size)(cE:∀k,E.ownBlock=U k->k<X0.heap.size)(bU:(X1.alloc o).grownBy Y E.ownBlock)(bE:E.ownBlock=U gg\/gg=X1.heap.size+1)(V:ac)(hV:∀k,k≠r5->V.heap[k]?=Y.heap[k]?)(jt:Y.heap.size<=V.heap.size):xK r5 (ak (U ⟨gg,0,ab⟩) n cap) (es++[e]) V:=by
 have c9:=hb.size;have hsY:X1.heap.size<=Y.heap.size:=bL (ai X1 o).size bU.size;have WK:∀b,b<X1.heap.size->E.ownBlock≠U b->(ak (U ⟨gg,0,ab⟩) n cap).ownBlock≠U b:=fun b bb dB H=>by
  simp only[Value.ownBlock,cm]at H;subst H;rcases bE with h|h;.exact dB h
  .omega
 intro x hx;rcases jC.1 hx with hx|hx
 .obtain⟨q1,q2,q3,q4,q5⟩:=h x hx;refine⟨q1,q2.heap (fun b off fE Qh=>?_) (by omega),q3,q4,fun b off fE=>?_⟩;.obtain⟨p1,p2,_⟩:=q5 b off fE;rw[hV b (by omega),bU.block b (by rw[bA];omega) (fun e1=>p2 e1.symm),(ai X1 o).block b (by omega),hb.block b Qh]
  .obtain⟨p1,p2,p3⟩:=q5 b off fE;exact⟨p1,WK b (by omega) p2,by omega⟩
 .rw[jB]at hx;subst hx;obtain⟨q1,q2,q3,q4,q5⟩:=he;refine⟨q1,q2.heap (fun b off fE Qh=>?_) (by omega),q3,q4,fun b off fE=>?_⟩;.have p1:=q5 b off fE;rw[hV b (by omega),bU.block b (by rw[bA];omega) (fun e1=>by have:=cE b e1.symm;omega),(ai X1 o).block b Qh]
  .have p1:=q5 b off fE;exact⟨by omega,WK b p1.2 (fun e1=>by have:=cE b e1;omega),by omega⟩
theorem xK.heap{r5:Nat}{E:ag}{es:List RE}{X Y:ac}(h:xK r5 E es X)(hb:Below X.heap.size X Y):xK r5 E es Y:=fun e he=>by obtain⟨q1,q2,q3,q4,q5⟩:=h e he;refine⟨q1,q2.au hb,q3,q4,fun b off fE=>?_⟩;obtain⟨p1,p2,p3⟩:=q5 b off fE;exact⟨p1,p2,dk p3 hb.size⟩
theorem yY{W V:ac}{base size n:Nat}{e:TypeId}{v:ag}{xs:List ag}(h:W.ownsRow base e size v n xs)(hb:Below W.heap.size W V):V.ownsRow base e size v n xs:=h.kept (row:=ab) ⟨hb.os,hb.tape,hb.output,hb.size,fun k z _=>hb.block k z⟩ (by
 cases hv:v.ownBlock with
  |none=>exact .inl J
  |some k=>exact .inr (by simp))
theorem Dp{W V:ac}{base size n r:Nat}{e:TypeId}{v:ag}{xs:List ag}(h:W.ownsRow base e size v n xs)(hb:b4 r W V)(L:r<base):V.ownsRow base e size v n xs:=h.kept hb.grown (by
 by_cases he:v.ownBlock=U r;.have:=(h.lt _ he).1;omega
 .exact .inr he)
theorem alc(s:W8):(zP s).length<=s.length:=by
 unfold zP AN;split;.simp
 .exact aA _
set_option maxHeartbeats 4000000 in set_option maxRecDepth 100000 in theorem ai5(s:W8)(fP:s.length<=9000)(w:ac)(hE:EV w):ap ae 33 #[ad (bs s)] w fun e w'=>(∃oa cap,e=aq (ep (rC s) oa cap)/\fc oa cap (rC s) w')/\Below w.heap.size w w':=by
 have h7:=hE.lt;obtain⟨V0,dR,q6,fM,iA⟩:∃V,V=w.alloc (.cells #[ak ab 0 0,I R 0,I R 0] 32)/\V.heap[w.heap.size]?=U (.cells (iW (ak ab 0 0) ⟨0,0⟩) 32 (0,0))/\Below w.heap.size w V/\V.heap.size=w.heap.size+1:=⟨_,J,a7 _ _,ai _ _,by rw[bA]⟩;have EL:=fun X=>Tryz.strings_TrimSuffix (bs s) ⟨#[10]⟩ X (by rw[ct];omega);rw[fy,show(⟨#[10]⟩:ByteArray).data.toList=[10]from J,show(⟨(AN s [10]).toArray⟩:ByteArray)=bs (zP s)from J]at EL;have Dj:=alc s;obtain⟨Mc,Bd⟩:=af (zP s);rw[<-Bd]at EL Dj;have HS:=LV (bs Mc) 10 (by rw[ct];omega) V0 (hE.au fM);rw[fy]at HS;obtain⟨ls,mv⟩:=af (ck 10 Mc);rw[<-mv]at HS;have zy:ls≠[]:=by rw[mv];exact BS _ _
 have lT:ls.length<=9001:=by rw[mv];have:=yI (c:=10) Mc;omega
 have Cx:∀x∈ls,x.length<=9000:=by rw[mv];exact yd (by omega)
 obtain⟨l0,jM⟩:=af (ls.headD []);have Ez:l0.length<=9000:=by
  rw[jM];cases ls with
   |nil=>simp
   |cons x r=>exact Cx x (by simp)
 obtain⟨V1,ek,OT,Ra,NI⟩:∃V,V=V0.alloc (.cells (o0 ls) 9)/\Below V0.heap.size V0 V/\V.heap.size=V0.heap.size+1/\∀i x,ls[i]?=U x->V.cell? ⟨V0.heap.size,i,ab⟩=U (ad (bs x)):=⟨_,J,ai _ _,by rw[bA],fun i x hi=>by rw[AT];unfold o0;simp[hi]⟩;rw[<-ek]at HS;have Qj:EV V1:=(hE.au fM).au OT;have dC:=LV (bs l0) 32 (by rw[ct];omega) V1 Qj;rw[fy]at dC;obtain⟨ws,e8⟩:=af (ck 32 l0);rw[<-e8]at dC;have tp:ws.length<=9001:=by rw[e8];have:=yI (c:=32) l0;omega
 have s4:∀x∈ws,x.length<=9000:=by rw[e8];exact yd Ez
 have Tf:=NI 0 l0 (by
  rw[jM];cases ls with
   |nil=>exact absurd J zy
   |cons x r=>rfl);obtain⟨V,hV,CS,dp⟩:∃V,V=(V1.alloc (.cells (o0 ws) 9)).alloc (.cells #[ak (U ⟨V1.heap.size,0,ab⟩) ws.length ws.length] 143)/\fo V (V1.heap.size+1) (V1.heap.size+2) ws/\Below V1.heap.size V1 V:=⟨_,J,Zv V1 ws s4 tp,ax (ai _ _) (ai _ _)⟩;obtain⟨g,hg⟩:=af (V1.heap.size+1);rw[<-hg,show V1.heap.size+2=g+1 by omega]at CS;obtain⟨t1,mO⟩:=af ws.tail;obtain⟨x0,l8⟩:=af (ws.headD []);have HN:=BP mO l8 g (g+1) V CS;obtain⟨a,ha⟩:=af (kG t1).1;have rm:=fun X q h2=>aaB t1 g (g+1) (by omega) X q h2;rw[<-ha]at rm;have Dn:=aa (show rC s=⟨ls.tail.map lG,a⟩by unfold rC;rw[<-Bd,<-mv,<-jM,<-e8,<-mO,<-ha]);have LE:=aa (show V0.heap.size=w.heap.size+1/\V1.heap.size=w.heap.size+2/\g=w.heap.size+3 by omega);have ff:=aa mv;have BR:=aa lT;have K0:=aa Cx;have A3:=Qj.au dp;obtain⟨n0,yb⟩:=af ws.length;rw[<-yb]at dC hV;obtain⟨nl,jb⟩:=af ls.length;have ag4:1<=nl:=by rw[jb];exact AP.2 zy
 rw[<-jb]at HS;have Bo:=aa jb;obtain⟨B,N⟩:=af (bs s);rw[<-N]at EL⊢;obtain⟨q1,pw⟩:=af (bs Mc);rw[<-pw]at EL HS;obtain⟨q2,DZ⟩:=af (bs l0);rw[<-DZ]at dC Tf;rw[iA]at Ra NI HS Tf;rw[Ra]at dC hV;have aoQ:=aa NI;clear NI;clear N pw DZ jb yb mv lT Cx ha mO l8 e8 jM Bd tp s4 Ez zy Dj fP hE hg;go_enter func33,ntmps33;go_wp2_with fail;rw[show w.alloc (Obj.cells #[ak ab 0 0,I R 0,I R 0] 32)=V0 from dR.symm];refine(EL _).mono ?_;rintro e W1⟨rfl,dU⟩;rw[dU];clear dR EL dU;go_wp2_with fail;refine HS.mono ?_;rintro e W1⟨rfl,dU⟩;rw[dU];clear HS ek dU;go_wp2_with fail;refine dC.mono ?_;rintro e W2⟨rfl,rfl⟩;clear dC;go_wp2_with fail;rw[show(V1.alloc (.cells (o0 ws) 9)).alloc (.cells #[ak (U ⟨w.heap.size+1+1,0,ab⟩) n0 n0] 143)=V from hV.symm,show w.heap.size+1+1+1=g by have:=LE.out;omega];refine HN.mono ?_;rintro e X⟨rfl,hX,gj⟩;clear hV HN;go_wp2_with fail;refine(rm _ hX (A3.sy (by have:=LE.out;omega) gj)).mono ?_;rintro e Y⟨rfl,hY,uv⟩;obtain⟨aN,aP⟩:=a;unfold fe;simp only;clear rm;have HQ:=aa (show QX w w.heap.size Y.heap.size (w.heap.size+1) ls ⟨aN,aP⟩ (ak ab 0 0) (Y.alloc (.cells #[ak ab 0 0,I R aN,I R aP] 32))by
  have dB:=gj.trans uv;have u:=LE.out;have yK:=dB.size;have hs3:=dp.size;have Ud:Below V0.heap.size V0 V:=ax OT dp;refine⟨(dB.below (ax fM Ud) (by omega) (by omega)).alloc (by omega) _,?_,a7 _ _,fun i x hi=>?_,⟨aA _,by omega,by omega,h7⟩,((A3.sy (by omega) dB)).au (ai _ _)⟩;.rw[(ai Y _).block w.heap.size (by omega),dB.block w.heap.size (by omega) (by omega),Ud.block w.heap.size (by omega)];exact q6
  .refine ao (ai _ _) (dB.cell (by omega) (ao dp (aoQ.out i x hi))));obtain⟨k,rfl⟩:∃k,nl=k+1:=⟨nl-1,by omega⟩;clear hX gj hY uv A3 CS dp Qj OT Ra q6 fM iA LE ag4 Tf;have hk9:k<=9000:=by have q:=Bo.out;have h2:=BR.out;omega
 go_wp2;obtain⟨r5,sN⟩:=af Y.heap.size;rw[<-sN]at HQ⊢;clear sN;go_loopw[20](fun aL w'=>∃(i:Nat)(es:List RE)(E:ag),i<=k/\aL=I R i/\Hid (QX w w.heap.size r5 (w.heap.size+1) ls ⟨aN,aP⟩ E w')/\Hid (w'.ownsRow (r5+1) 54 4 E es.length (qH es))/\Hid (xK r5 E es w')/\Hid (es.map (·.1)=(ls.tail.take i).map lG)/\Hid (es.length=i))(fun aL _=>k-(intOf aL).toNat);case atStart=>exact⟨0,[],ak ab 0 0,by omega,J,HQ,aa (lj _ _ _ _),aa (fun e he=>by cases he),aa (by simp),aa J⟩
 case round=>
  obtain⟨i,es,E,hi,rfl,G,HO,HK,HI,Hm⟩:=hrel;clear HQ;by_cases am:i<k
  .have Re:i+1<ls.length:=by have:=Bo.out;omega
   obtain⟨x,hx⟩:∃x,ls[i+1]?=U x:=⟨_,cq Re⟩;have sV:=K0.out x (iy hx);have xC:=G.out.wu (i+1) x hx;have bc:=fun X hX=>aeU x sV X hX;have bh:=aa6 x;have lA:(ls.tail.take (i+1)).map lG=(ls.tail.take i).map lG++[lG x]:=by rw[List.take_add_one,show ls.tail[i]?=U x by rw[List.getElem?_tail];exact hx,mU];rfl
   obtain⟨rr,jO⟩:=af (lG x);rw[<-jO]at bc bh lA;have rN:=aa lA;have Tz:=aa bh;obtain⟨q3,OQ⟩:=af (bs x);rw[<-OQ]at bc xC;clear OQ jO sV hx Re lA bh;replace G:=aa (G.out.au (aS _ wr).drew);replace HO:Hid (wr.drew.ownsRow (r5+1) 54 4 E es.length (qH es)):=HO;replace HK:=aa (HK.out.heap (aS _ wr).drew);have Ex:wr.drew.cell? ⟨r5,0,ab⟩=U E:=aT _ _ 0 _ _ _ G.out.row;obtain⟨nr,cs,⟨rk,re⟩⟩:=rr;unfold lW at bc;simp only at bc;obtain⟨eq,d8,dh,dD,dz⟩:=S4;have ro:es.length<=9000:=by have:=Hm.out;omega
   have i1:(0:Int)<=(i:Int)+1:=by omega
   have i2:(i:Int)+1<(k:Int)+1:=by omega
   have dF:R.wrap ((i:Int)+1)=(i:Int)+1:=by rw[jP];omega
   go_wp2_with fail;go_region_law(first|(go_simp;go_at_call 53;refine(bc _ G.out.ev).mono ?_;rintro e w1⟨⟨oc,cc,rfl,eW,jZ,y6,it⟩,bb⟩;have HD:=aa (G.out.au bb);have Gv:w1.cell? ⟨r5,0,ab⟩=U E:=aT _ _ 0 _ _ _ HD.out.row;have cx2:=ao bb xC;have acc:r5<w1.heap.size:=oA Gv;have yD:=aa (yY HO.out bb);have qI:=aa (bQ bb (bQ eW (bQ jZ (bQ y6 it))));clear bb eW jZ y6 it)|(refine step_append_lies _ (by rfl) _ _ _ (by rfl) (r5+1) 54 eq _ 4 48 underlying28 d8 dh dD dz J (by omega) E es.length (qH es) (by rfl) (yD.out.alloc _) ⟨w1.heap.size,0,ab⟩ 1 1 [I R nr,ak oc cs.length cc,I R rk,I R re] (by rfl) (by rfl) (lS (cs:=#[I R nr,ak oc cs.length cc,I R rk,I R re]) (t:=54) (fr:=(0,0)) (a7 w1 _)) (by simp[fG]) (by omega) (by simp only[maxLen];omega) (by omega) (by rw[bA];omega) (w1.heap.size+1) (by simp) ?_;intro gg bS w2 du bU bE d6;have HG:=aa (bQ du (bQ bU (bQ bE d6)));have HW:=aa (HD.out.heap (Y:=w2) ⟨bU.os,bU.tape,bU.output⟩ (bL (ai w1 _).size bU.size) (fun k z=>(bU.block k (by rw[bA];omega) (fun e1=>by have:=(yD.out.lt k e1.symm).1;omega)).trans ((ai w1 _).block k (by omega))));have jT:w2.cell? ⟨r5,0,ab⟩=U E:=aT _ _ 0 _ _ _ HW.out.row;have j7:w2.frozen? ⟨r5,0,ab⟩=false:=cy _ _ 0 _ _ HW.out.row;clear du bU bE d6));all_goals
    have dC:=aa (HW.out.set (ak (U ⟨gg,0,ab⟩) (es.length+1) bS));have eC:=aa (Dp (r:=r5) (V:=w2.setCell ⟨r5,0,ab⟩ (ak (U ⟨gg,0,ab⟩) (es.length+1) bS)) HG.out.1 (b4.set r5 0 w2 _) (by omega));have Pi:=aa (XV (e:=(⟨nr,cs,⟨rk,re⟩⟩,oc,cc)) (gg:=gg) (n:=es.length+1) (cap:=bS) HK.out qI.out.1 ⟨Tz.out,qI.out.2.2.2.1,qI.out.2.1,qI.out.2.2.1,qI.out.2.2.2.2⟩ (oA Ex) (fun k z=>(HO.out.lt k z).2) HG.out.2.1 HG.out.2.2.1 (w2.setCell ⟨r5,0,ab⟩ (ak (U ⟨gg,0,ab⟩) (es.length+1) bS)) (fun k z=>mV _ _ _ _ z) (b4.set r5 0 w2 _).size);have j4:=aa (show(es++[((⟨nr,cs,⟨rk,re⟩⟩:RL),oc,cc)]).map (·.1)=(ls.tail.take (i+1)).map lG by rw[rN.out,mU,HI.out];rfl);have QK:=aa (show(es++[((⟨nr,cs,⟨rk,re⟩⟩:RL),oc,cc)]).length=i+1 by rw[cl,gH,Hm.out]);replace eC:Hid ((w2.setCell ⟨r5,0,ab⟩ (ak (U ⟨gg,0,ab⟩) (es.length+1) bS)).ownsRow (r5+1) 54 4 (ak (U ⟨gg,0,ab⟩) (es.length+1) bS) (es++[((⟨nr,cs,⟨rk,re⟩⟩:RL),oc,cc)]).length (qH (es++[((⟨nr,cs,⟨rk,re⟩⟩:RL),oc,cc)]))):=aa (by rw[cl,gH,Zr];exact eC.out);clear Gv jT j7 cx2 acc HG HW HD yD qI Ex xC;go_wp2;go_round;case rel=>exact⟨i+1,_,_,by omega,by go_num,dC,eC,Pi,j4,QK⟩
    case measure=>simp[intOf];omega
  .obtain rfl:i=k:=by omega
   have k4:=aa (show es.map (·.1)=ls.tail.map lG by rw[HI.out,li (by have:=Bo.out;rw[C2];omega)]);have c0:wr.cell? ⟨r5,0,ab⟩=U E:=aT _ _ 0 _ _ _ G.out.row;have c1:wr.cell? ⟨r5,1,ab⟩=U (I R aN):=aT _ _ 1 _ _ _ G.out.row;have c2:wr.cell? ⟨r5,2,ab⟩=U (I R aP):=aT _ _ 2 _ _ _ G.out.row;obtain⟨oc,cc,Cu,eW,jZ,_⟩:=S3 HO.out HK.out;subst Cu;have aZ:=G.out.ci;obtain⟨rc,cC⟩:∃rc:Array ag,rc=iW (ak oc es.length cc) ⟨aN,aP⟩:=⟨_,J⟩;have mM:rc.all (·.oneCell')=true:=by rw[cC];simp[iW,fG]
   go_wp2_with(refine bK J 32 _ _ J w.heap.size rc J (by rw[cC];rfl) 32 _ aZ (by rw[cC];exact pZ) (by rw[cC];rfl) mM ?_);have hl:=G.out.le;have bb:∀k,k≠w.heap.size->(wr.setRow w.heap.size rc).heap[k]?=wr.heap[k]?:=fun k z=>ij wr _ k _ z;have Xh:b4 w.heap.size wr (wr.setRow w.heap.size rc):=⟨J,J,J,by rw[iz];exact aA _,fun k _ u=>bb k u⟩;refine ba (v:=aw rc) (kM J _ _ w.heap.size 32 rc (0,0) _ J (aV _ _ _ _ _ _ aZ) underlying32 J (by rw[cC];exact pZ)) J ⟨?_,Xh.below G.out.below (aA _) G.out.below.size⟩;have hO2:=HO.out.kept Xh.grown (by
    by_cases he:(ak oc es.length cc).ownBlock=U w.heap.size;.have:=(HO.out.lt _ he).1;omega
    .exact .inr he);have hK2:xK r5 (ak oc es.length cc) es (wr.setRow w.heap.size rc):=fun e he=>by obtain⟨q1,q2,q3,q4,q5⟩:=HK.out e he;refine⟨q1,q2.heap (fun b off fE _=>bb b (by have:=q5 b off fE;omega)) (by rw[iz];exact aA _),q3,q4,fun b off fE=>?_⟩;rw[iz];exact q5 b off fE
   obtain⟨Xc,Wb,zC,_,_,NL⟩:=S3 hO2 hK2;simp only[Value.slice.injEq]at zC;obtain⟨rfl,_,rfl⟩:=zC;have bh:=ZC s;rw[Dn.out]at bh⊢;rw[k4.out]at NL;have n4:(ls.tail.map lG).length=es.length:=by rw[<-k4.out,oB]
   exact⟨oc,cc,by rw[cC];unfold ep;simp only;rw[n4];rfl,⟨NL,by simp only;rw[n4];exact eW,jZ,bh⟩⟩
def sb:bj:=⟨[],⟨0,0⟩⟩
def fR(s:W8):bj×Nat:=if 8000<s.length then(sb,2)else match tq s with|U p=>(p,0)|ab=>(sb,4)
theorem s7(W:ac):fc ab 0 sb W:=⟨xB.nil _ _,aA _,by unfold maxLen;omega,⟨fun r L=>(by cases L),⟨eF (k:=0) (by omega),eF (k:=0) (by omega)⟩⟩⟩
theorem rh{fn:Func}{p ay:Tmp}(h:fn.results=#[.cell p 32, .tmp ay])(tmps:Array ag)(w:ac)(g:Nat)(cs:Array ag)(v:ag)(F:cs.size=3)(hp:tmps.getD p undef=av (U ⟨g,0,ab⟩))(hv:tmps.getD ay undef=v)(hg:w.heap[g]?=U (.cells cs 32 (0,0))):(results fn tmps).run ae w= .ok (az #[aw cs,v]) w:=by rw[xf h,hp,hv];have hl:=tT (P:=ae) w g 32 32 cs (0,0) _ hg underlying32 J (by rw[F];exact pZ);simp[asAddr,hl]
theorem ZI{aK:ac}{r j:Nat}{v:ag}(h:aK.heap[r]?=U (.cells #[ak ab 0 0,I R 0,I R 0] 32 (0,0)))(H:aK.cell? ⟨r,j,ab⟩=U v):(j=0/\v=ak ab 0 0)\/v=I R 0:=by rw[aT _ _ j _ _ _ h]at H;match j,H with|0,H=>left;simp at H;exact⟨J,H.symm⟩|1,H=>right;simp at H;exact H.symm|2,H=>right;simp at H;exact H.symm|j+3,H=>simp at H
theorem jV.A1{oa:Option bl}{cs:List CD}{aK:ac}{r:Nat}(h:jV oa cs aK)(L:aK.heap[r]?=U (.cells #[ak ab 0 0,I R 0,I R 0] 32 (0,0)))(c:Array ag):jV oa cs (aK.setRow r c):=⟨fun h0=>by
 obtain⟨b,off,q,h2,h3⟩:=h.ez h0;have bo:b≠r:=fun e=>by
  subst e;obtain⟨al,hy⟩:∃al,cs[0]?=U al:=⟨_,cq h0⟩;rcases ZI L (h3 0 al hy).k2 with⟨_,h5⟩|h5;.cases h5
  .cases h5
 exact⟨b,off,q,by rw[iz];exact h2,fun i x hi=>(h3 i x hi).au fun j=>dt (ij aK r b c bo) j⟩⟩
theorem fc.A1{oa:Option bl}{cap:Nat}{p:bj}{aK:ac}{r:Nat}(h:fc oa cap p aK)(L:aK.heap[r]?=U (.cells #[ak ab 0 0,I R 0,I R 0] 32 (0,0)))(c:Array ag):fc oa cap p (aK.setRow r c):=⟨⟨fun h0=>by
 obtain⟨b,off,q,h2,h3⟩:=h.bw.ez h0;have bo:b≠r:=fun e=>by
  subst e;obtain⟨al,hy⟩:∃al,p.bw[0]?=U al:=⟨_,cq h0⟩;obtain⟨dj,cc,h4⟩:=h3 0 al hy;rcases ZI L h4.k1 with⟨h5,_⟩|h5;.omega
  .cases h5
 refine⟨b,off,q,by rw[iz];exact h2,fun i x hi=>?_⟩;obtain⟨dj,cc,h4⟩:=h3 i x hi;have H:=fun j=>dt (ij aK r b c bo) j;exact⟨dj,cc,(H _).trans h4.k0,(H _).trans h4.k1,(H _).trans h4.k2,(H _).trans h4.k3,h4.bq.A1 L c,h4.le,h4.cap,h4.ok⟩⟩,h.le,h.cap,h.ok⟩
theorem wV(oa:Option bl)(n cap:Nat)(k e:Int):(#[ak oa n cap,I R k,I R e]:Array ag).all (·.oneCell')=true:=by simp[fG]
set_option maxHeartbeats 2000000 in theorem aeX(s:W8)(F:s.length<=9000)(w:ac)(hE:EV w):ap ae 11 #[ad (bs s)] w fun e w'=>(∃oa cap,e=aq (az #[ep (fR s).1 oa cap,cj (fR s).2])/\fc oa cap (fR s).1 w')/\Below w.heap.size w w':=by
 have cP:=ct s;have jS:=lh s;have ni:=fun X hX=>ai5 s F X hX;have wB:=ae8 s (ZC s);obtain⟨B,N⟩:=af (bs s);rw[<-N]at cP jS ni⊢;clear N;obtain⟨V0,dR,q6,fM,iA⟩:∃V,V=w.alloc (.cells #[ak ab 0 0,I R 0,I R 0] 32)/\V.heap[w.heap.size]?=U (.cells #[ak ab 0 0,I R 0,I R 0] 32 (0,0))/\Below w.heap.size w V/\V.heap.size=w.heap.size+1:=⟨_,J,a7 _ _,ai _ _,by rw[bA]⟩;by_cases h8:8000<s.length
 .have HV:=aa (show fR s=(sb,2)from if_pos h8);have C4:(8000:Int)<B.size:=by omega
  clear ni wB jS F;go_enter func11,ntmps11;go_wp2_with(refine bK J 32 _ _ J w.heap.size #[ak ab 0 0,I R 0,I R 0] J J 32 _ (a7 _ _) pZ J (wV _ _ _ _ _) ?_);refine ba (v:=az #[aw #[ak ab 0 0,I R 0,I R 0],b8 43 (I R 2)]) (rh J _ _ w.heap.size #[ak ab 0 0,I R 0,I R 0] _ J J J (aV _ _ _ _ _ _ (a7 _ _))) J ⟨⟨ab,0,?_,?_⟩,below_setRow (ai _ _) (aA _) _⟩;.rw[HV.out];rfl
  .rw[HV.out];exact s7 _
 have C4:¬(8000:Int)<B.size:=by omega
 have wW:fR s=match tq s with|U p=>(p,0)|ab=>(sb,4):=if_neg h8;obtain⟨p,hp⟩:=af (rC s);rw[<-hp]at ni wB;have HE:=aa (hE.au fM);have B7:=aa wB;have nN:=aa wW;have VT:=aa jS;clear wB wW hp jS hE h8 F cP;go_enter func11,ntmps11;go_wp2_with fail;rw[show w.alloc (Obj.cells #[ak ab 0 0,I R 0,I R 0] 32)=V0 from dR.symm];refine(ni _ HE.out).mono ?_;rintro e X⟨⟨oa,cap,rfl,On⟩,hX⟩;clear dR ni;obtain⟨Y,hY,uv,_,JZ⟩:=eN X #[ak oa p.bw.length cap,I R p.bg.aF,I R p.bg.aU] 32;have HT:=acU p oa cap Y (On.au uv) ((HE.out.au hX).au uv);have zI:=aa (On.au uv);have S:=aa (ax hX uv);clear On hX uv;have y0:=JZ 0;have y1:=JZ 1;have y2:=JZ 2;simp only[cK,cT,c7]at y0 y1 y2;clear JZ;unfold ep at HT⊢;obtain⟨Cl,rL⟩:=af p.bw.length;obtain⟨pk,dm⟩:=af p.bg.aF;obtain⟨pe,iF⟩:=af p.bg.aU;rw[<-rL,<-dm,<-iF]at HT hY;rw[<-rL]at y0;rw[<-dm]at y1;rw[<-iF]at y2;rw[<-rL,<-dm,<-iF];have w_:=aa (show(#[ak oa Cl cap,I R pk,I R pe]:Array ag)=#[ak oa p.bw.length cap,I R p.bg.aF,I R p.bg.aU]by rw[rL,dm,iF]);clear rL dm iF;go_wp2_with fail;rw[show X.alloc (.cells #[ak oa Cl cap,I R pk,I R pe] 32)=Y from hY.symm];refine HT.mono ?_;rintro e aK⟨rfl,hZ⟩;have HZ:=aa hZ;have z0:=ao hZ y0;have z1:=ao hZ y1;have z2:=ao hZ y2;have m6:aK.heap[w.heap.size]?=U (.cells #[ak ab 0 0,I R 0,I R 0] 32 (0,0)):=by have:=ax S.out hZ;rw[this.block w.heap.size (by omega)];exact q6
 have wH:=aa (ax fM (ax S.out hZ));clear hZ hY HT y0 y1 y2 q6 fM iA HE;unfold Fy;by_cases M:cM p=0
 .rw[if_pos M,M,kD];obtain⟨T,hT⟩:=af (bs (dS p));rw[<-hT];have UL:=aa (show T.toList=dS p by rw[hT,lh]);clear hT;by_cases ht:dS p=s
  .have HV:=aa (show fR s=(p,0)by rw[nN.out,<-B7.out,if_pos ⟨M,ht⟩]);have hb:(T.toList==B.toList)=true:=by rw[UL.out,VT.out,ht];simp
   clear ht M;go_wp2_with(refine bK J 32 _ _ J w.heap.size #[ak oa Cl cap,I R pk,I R pe] J J 32 _ m6 pZ J (wV _ _ _ _ _) ?_);refine ba (v:=az #[aw #[ak oa Cl cap,I R pk,I R pe], .nilIface]) (rh J _ _ w.heap.size #[ak oa Cl cap,I R pk,I R pe] _ J J J (aV _ _ _ _ _ _ m6)) J ⟨⟨oa,cap,?_,?_⟩,below_setRow wH.out (aA _) _⟩;.rw[HV.out,w_.out];rfl
   .rw[HV.out];exact(zI.out.au HZ.out).A1 m6 _
  .have HV:=aa (show fR s=(sb,4)by rw[nN.out,<-B7.out,if_neg (fun h=>ht h.2)]);have hb:(T.toList==B.toList)=false:=by rw[UL.out,VT.out];simpa using ht
   clear ht M;go_wp2_with(refine bK J 32 _ _ J w.heap.size #[ak ab 0 0,I R 0,I R 0] J J 32 _ m6 pZ J (wV _ _ _ _ _) ?_);refine ba (v:=az #[aw #[ak ab 0 0,I R 0,I R 0],b8 43 (I R 4)]) (rh J _ _ w.heap.size #[ak ab 0 0,I R 0,I R 0] _ J J J (aV _ _ _ _ _ _ m6)) J ⟨⟨ab,0,?_,?_⟩,below_setRow wH.out (aA _) _⟩;.rw[HV.out];rfl
   .rw[HV.out];exact s7 _
 .rw[if_neg M,iL M];have HV:=aa (show fR s=(sb,4)by rw[nN.out,<-B7.out,if_neg (fun h=>M h.1)]);clear M;go_wp2_with(refine bK J 32 _ _ J w.heap.size #[ak ab 0 0,I R 0,I R 0] J J 32 _ m6 pZ J (wV _ _ _ _ _) ?_);refine ba (v:=az #[aw #[ak ab 0 0,I R 0,I R 0],b8 43 (I R 4)]) (rh J _ _ w.heap.size #[ak ab 0 0,I R 0,I R 0] _ J J J (aV _ _ _ _ _ _ m6)) J ⟨⟨ab,0,?_,?_⟩,below_setRow wH.out (aA _) _⟩;.rw[HV.out];rfl
  .rw[HV.out];exact s7 _
structure KL where
 ej:Nat
 nr:Nat
 a0:Nat
 bR:Nat
 a2:Nat
 a3:Nat
structure hc(c:KL):Prop where
 ej:c.ej<4294967296
 nr:c.nr<4294967296
 a0:c.a0<18446744073709551616
 bR:c.bR<18446744073709551616
 a2:c.a2<18446744073709551616
 a3:c.a3<18446744073709551616
def bX(c:KL):Array ag:=#[I aj c.ej,I aj c.nr,I ah c.a0,I ah c.bR,I ah c.a2,I ah c.a3]
def cR(c:KL):ag:=aw (bX c)
def fk(c:KL):Nat->Nat|0=>c.a0|1=>c.bR|2=>c.a2|3=>c.a3|_=>0
theorem Fe{c:KL}(h:hc c)(i:Nat):fk c i<18446744073709551616:=by match i with|0=>exact h.a0|1=>exact h.bR|2=>exact h.a2|3=>exact h.a3|i+4=>simp[fk]
theorem XA(c:KL)(i:Nat)(h:i<=3):(bX c)[2+i]?=U (I ah (fk c i:Nat)):=by rcases(by omega:i=0\/i=1\/i=2\/i=3)with rfl|rfl|rfl|rfl<;>rfl
def py(c:CD)(x:Nat):Bool:=if c.op=1 then x==c.v else if c.op=2 then x !=c.v else if c.op=3 then decide (x<c.v)else if c.op=4 then decide (x<=c.v)else if c.op=5 then decide (c.v<x)else if c.op=6 then decide (c.v<=x)else(x&&&c.m)==c.v
set_option maxHeartbeats 2000000 in theorem amA(c:CD)(H:jJ c)(x:Nat)(hx:x<18446744073709551616)(w:ac):ap ae 183 #[e9 c,I ah x] w fun e w'=>e=aq (aH (py c x))/\Below w.heap.size w w':=by
 obtain⟨a6,op,v,m,g,⟨ip,b,lo,hi⟩⟩:=c;have ts:bits .and ah (x:Int) (m:Int)=((x&&&m:Nat):Int):=u64_and_nat x m hx H.m;clear H;obtain⟨al,hy⟩:∃al:Nat,al=x&&&m:=⟨_,J⟩;rw[<-hy]at ts;have HY:=aa hy;clear hy;unfold e9;simp only;go_enter func183,ntmps183;go_wp2;all_goals go_ret;refine⟨gm ?_,ai _ _⟩
 all_goals clear ts;first|(simp_all[py];done)|(rw[fs];simp_all[py];done)|(rw[fs];simp_all[py];omega)|(have:=HY.out;rw[fs];simp_all[py];omega)
def mC(c:CD):Bool:=fA c.op==1
def tJ(k:KL)(c:CD):Bool:=!mC c||py c (fk k c.a6.toNat)
def mJ(r:RL)(k:KL):Bool:=decide ((k.nr:Int)=r.nr)&&r.bq.all (tJ k)
def nx(r:RL):Bool:=r.bq.any fun c=>!mC c
theorem Sn{α:Type}{f:α->Bool}{l:List α}{i:Nat}{c:α}(h:l.take (i+1)=l.take i++[c])(h0:(l.take i).all f=true):(l.take (i+1)).all f=f c:=by rw[h,AO,h0];simp
theorem GU{α:Type}{f:α->Bool}{l:List α}{i:Nat}(h:(l.take i).all f=false):l.all f=false:=by rw[<-List.take_append_drop i l,AO,h,AS]
set_option maxHeartbeats 4000000 in theorem ajZ(r:RL)(M:r.bq.length<=4)(oa:Option bl)(cap:Nat)(w:ac)(H:jV oa r.bq w):ap ae 142 #[lW r oa cap] w fun e w'=>e=aq (aH (nx r))/\Below w.heap.size w w':=by
 obtain⟨n,u⟩:=af r.bq.length;have G:=aa (Bi H n u);have h4:n<=4:=by omega
 have HL:=aa (show∀i,i<n->∃c,r.bq[i]?=U c/\r.bq.take (i+1)=r.bq.take i++[c]from fun i h=>uD (by omega));have HD:=aa (show nx r=!(r.bq.all mC)by unfold nx;rw[List.any_eq_not_all_not];simp);obtain⟨aI,hz⟩:=af (nx r);rw[<-hz]at HD⊢;clear H M hz;obtain⟨nr,cs,⟨aN,aP⟩⟩:=r;unfold lW;simp only at G HL HD u⊢;rw[<-u];have HN:=aa u;clear u;go_enter func142,ntmps142;go_wp2;obtain⟨V,hV,hB,cP,hx⟩:=eN w #[I R nr,ak oa n cap,I R aN,I R aP] 54;rw[<-hV];clear hV;have k1:=hx 1;go_loopw[7](fun aL w'=>∃i:Nat,i<=n/\aL=I R i/\Hid ((cs.take i).all mC=true)/\w'=V)(fun aL _=>n-(intOf aL).toNat);case atStart=>exact⟨0,by omega,J,aa J,J⟩
 case round=>
  obtain⟨i,hi,rfl,HG,rfl⟩:=hrel;by_cases am:i<n
  .obtain⟨c,cH,fF⟩:=HL.out i am;obtain⟨b,off,rfl,ds,HA⟩:=G.out (by omega);have hA:=(HA.out i c cH).au fun j=>(kL hB).1 b j ds;have c1:=hA.k1;have HQ:=aa (Sn (f:=mC) fF HG.out);have HK:=fun w=>vm c.op w;obtain⟨ko,iO⟩:∃k:Int,k=(fA c.op:Nat):=⟨_,J⟩;rw[<-iO]at HK;have vw:mC c=(ko==1):=by unfold mC;rw[iO,fs];simp;omega
   rw[vw]at HQ;clear iO vw cH fF hA hx;obtain⟨op,EH⟩:=af c.op;rw[<-EH]at HK c1;clear EH;cases kF:(ko==1)with
    |true=>
     rw[kF]at HQ;have dY:ko=1:=by simpa using kF
     subst dY;go_wp2_with(go_at_call 131;refine(HK _).mono ?_;rintro e w'⟨rfl,rfl⟩);go_round;case rel=>exact⟨i+1,by omega,by go_num,HQ,trivial⟩
     case measure=>simp[intOf];omega
    |false=>
     rw[kF]at HQ;have dY:¬ko=1:=by simpa using kF
     have HZ:=aa (show aI=true by rw[HD.out,GU HQ.out];rfl);clear kF;go_wp2_with(go_at_call 131;refine(HK _).mono ?_;rintro e w'⟨rfl,rfl⟩);go_ret;exact⟨gm HZ.out.symm,hB⟩
  .obtain rfl:i=n:=by omega
   have HZ:=aa (show aI=false by have:=HG.out;rw[li (by rw[HN.out];exact aA _)]at this;rw[HD.out,this];rfl);go_wp2;go_ret;exact⟨gm HZ.out.symm,hB⟩
theorem K_{c:CD}(h:nM c):∃a:Nat,c.a6=a/\a<=3:=by
 cases h with
  |wF a k v ha q h6 hv=>exact⟨a,J,ha⟩
  |wX a v m ha hv hm=>exact⟨a,J,ha⟩
  |v_ a g ha hg=>exact⟨a,J,ha⟩
  |dr a ip b lo hi ha bt M=>exact⟨a,J,ha⟩
set_option maxHeartbeats 4000000 in theorem XF(r:RL)(h:uU r)(oa:Option bl)(cap:Nat)(k:KL)(z:hc k)(w:ac)(H:jV oa r.bq w):ap ae 141 #[lW r oa cap,cR k] w fun e w'=>e=aq (aH (mJ r k))/\Below w.heap.size w w':=by
 obtain⟨n,u⟩:=af r.bq.length;have G:=aa (Bi H n u);have h4:n<=4:=by have:=h.qO;omega
 have qL:=aa h.bq;have HL:=aa (show∀i,i<n->∃c,r.bq[i]?=U c/\r.bq.take (i+1)=r.bq.take i++[c]from fun i h=>uD (by omega));obtain⟨m,hm⟩:∃m:Nat,r.nr=m:=⟨r.nr.toNat,by have:=h.yR;omega⟩;have hm8:m<=8:=by have:=h.zL;omega
 have HZ:=aa (show mJ r k=(decide ((k.nr:Int)=r.nr)&&r.bq.all (tJ k))from J);obtain⟨aI,hz⟩:=af (mJ r k);rw[<-hz]at HZ⊢;clear H hz h;obtain⟨nr,cs,⟨aN,aP⟩⟩:=r;unfold lW cR bX;simp only at G HL HZ qL u hm⊢;subst hm;rw[<-u];have HN:=aa u;clear u;have sh:aj.wrap (m:Int)=m:=by rw[IntKind.wrap_u32];omega
 by_cases bo:k.nr=m
 .have gp:=aa (show aI=cs.all (tJ k)by rw[HZ.out,bo];simp);have qk:(k.nr:Int)=m:=by omega
  clear HZ;obtain⟨V,hV,hB,hx,hy⟩:=qZ w #[I R m,ak oa n cap,I R aN,I R aP] (bX k) 54 68;have HY:=aa hy;have k1:=hx 1;have kn:=hy 1;have kn2:V.cell? ⟨w.heap.size+1,1,ab⟩=U (I aj m):=by rw[kn];show U (I aj (k.nr:Int))=_;rw[qk]
  clear kn hy;unfold bX at hV;rw[qk]at hV⊢;have Q1:=aa (XA k);have Hg:=aa (fun i=>Fe z i);obtain⟨dv,Jh⟩:=af k.ej;obtain⟨kb0,G3⟩:=af k.a0;obtain⟨kb1,GV⟩:=af k.bR;obtain⟨kb2,Hj⟩:=af k.a2;obtain⟨kb3,IT⟩:=af k.a3;rw[<-Jh,<-G3,<-GV,<-Hj,<-IT]at hV⊢;clear Jh G3 GV Hj IT z bo qk;go_enter func141,ntmps141;go_wp2;rw[<-hV];clear hV;go_loopw[16](fun aL w'=>∃i:Nat,i<=n/\aL=I R i/\Hid ((cs.take i).all (tJ k)=true)/\Hid (Below V.heap.size V w'))(fun aL _=>n-(intOf aL).toNat);case atStart=>exact⟨0,by omega,J,aa J,aa (aS _ _)⟩
  case round=>
   obtain⟨i,hi,rfl,HG,S⟩:=hrel;have HW:=aa (ax hB S.out);by_cases am:i<n
   .obtain⟨c,cH,fF⟩:=HL.out i am;obtain⟨b,off,rfl,ds,HA⟩:=G.out (by omega);have hA:=(HA.out i c cH).au fun j=>(kL HW.out).1 b j ds;have HQ:=aa (Sn (f:=tJ k) fF HG.out);have bh:=hA.ok;obtain⟨a,pT,A'⟩:=K_ (qL.out c (iy cH));obtain⟨x,f'⟩:=af (fk k a);have tb:x<18446744073709551616:=by rw[f'];exact Hg.out a
    have xR:=(HY.out (2+a)).trans (Q1.out a A');rw[<-f']at xR;have HH:=fun w=>amA c bh x tb w;have oq:=aa (show tJ k c=(!mC c||py c x)by unfold tJ;rw[pT,Int.toNat_natCast,f']);obtain⟨hl,Aq⟩:=af (py c x);rw[<-Aq]at HH oq;have HK:=fun w=>vm c.op w;obtain⟨ko,iO⟩:∃k:Int,k=(fA c.op:Nat):=⟨_,J⟩;rw[<-iO]at HK;have vw:mC c=(ko==1):=by unfold mC;rw[iO,fs];simp;omega
    rw[vw]at oq;rw[oq.out]at HQ;obtain⟨p0,p1,p2,p3,wz,vY,vR,vX,w8,_⟩:=hA;clear iO vw cH fF f' tb Aq bh oq;obtain⟨a6,op,v,mm,gl,⟨ip,cV,lo,hh⟩⟩:=c;unfold e9 at HH;simp only at p0 p1 p2 p3 wz vY vR vX w8 HH HK pT;subst pT;have g1:=ao S.out k1;have i1:(0:Int)<=a:=by omega
    have i2:(a:Int)<4:=by omega
    go_wp2;obtain⟨W1,dU,lm,_,gu⟩:=eN wr #[I R a,I R op,I ah v,I ah mm,ad gl,I aj ip,I R cV,I R lo,I R hh] 129;rw[<-dU];clear dU;have g0:=aJ (gu 0);have g1':=aJ (gu 1);have g2:=aJ (gu 2);have g3:=aJ (gu 3);have g4:=aJ (gu 4);have oK:=aJ (gu 5);have oP:=aJ (gu 6);have kU:=aJ (gu 7);have n7:=aJ (gu 8);have anq:=aJ (ao (ax S.out lm) xR);have rB:∀d os,ap ae 131 #[I R op] (grow (redrawn W1 d) os) fun e bF=>e=aq (I R ko)/\∃p:eh,bF=grow (redrawn W1 p.d) p.os:=fun d os=>yf (HK _);have Co:∀d os,ap ae 183 #[aw #[I R a,I R op,I ah v,I ah mm,ad gl,I aj ip,I R cV,I R lo,I R hh],I ah x] (grow (redrawn W1 d) os) fun e bF=>e=aq (aH hl)/\∃p:eh,bF=grow (redrawn W1 p.d) p.os:=fun d os=>fU (HH _);clear gu p0 p1 p2 p3 wz vY vR vX w8 HH HK xR;cases kF:(ko==1)with
     |false=>
      rw[kF]at HQ;refine fI (by kernel_rfl) (by kernel_rfl) ?_;repeat(go_big_quiet_step(first|(go_at_call 131;exact rB _ _)|(go_at_call 183;exact Co _ _)))
      refine e6 ?_;intro _ bT;obtain⟨⟨dq,bJ⟩,bY⟩:=bT;subst bY;go_wp2;go_round;case rel=>exact⟨i+1,by omega,by go_num,HQ,aa (ax (ax S.out lm) (cN _ _ _))⟩
      case measure=>simp[intOf];omega
     |true=>
      rw[kF]at HQ;cases hl with
       |true=>
        refine fI (by kernel_rfl) (by kernel_rfl) ?_;repeat(go_big_quiet_step(first|(go_at_call 131;exact rB _ _)|(go_at_call 183;exact Co _ _)))
        refine e6 ?_;intro _ bT;obtain⟨⟨dq,bJ⟩,bY⟩:=bT;subst bY;go_wp2;go_round;case rel=>exact⟨i+1,by omega,by go_num,HQ,aa (ax (ax S.out lm) (cN _ _ _))⟩
        case measure=>simp[intOf];omega
       |false=>
        have HF:=aa (show aI=false by rw[gp.out];exact GU HQ.out);refine fI (by kernel_rfl) (by kernel_rfl) ?_;repeat(go_big_quiet_step(first|(go_at_call 131;exact rB _ _)|(go_at_call 183;exact Co _ _)))
        refine e6 ?_;intro _ bT;obtain⟨⟨dq,bJ⟩,bY⟩:=bT;subst bY;go_wp2;go_ret;exact⟨gm HF.out.symm,ax (ax HW.out lm) (cN _ _ _)⟩
   .obtain rfl:i=n:=by omega
    have HF:=aa (show aI=true by have:=HG.out;rw[li (by rw[HN.out];exact aA _)]at this;rw[gp.out,this]);go_wp2;go_ret;exact⟨gm HF.out.symm,HW.out⟩
 .have HF:=aa (show aI=false by rw[HZ.out,decide_eq_false (by omega),AS]);have GR:¬(k.nr:Int)=m:=by omega
  clear bo HZ;go_enter func141,ntmps141;go_wp2;go_ret;exact⟨gm HF.out.symm,ax (ai _ _) (ai _ _)⟩
structure VL where
 bf:ByteArray
 ip:Nat
 aB:Int
structure tl(v:VL):Prop where
 bf:v.bf.size<=1000
 ip:v.ip<4294967296
 aB:mf v.aB
structure VS where
 v0:VL
 v1:VL
 v2:VL
 v3:VL
def VS.eu(v:VS):Nat->VL|0=>v.v0|1=>v.v1|2=>v.v2|_=>v.v3
structure si(v:VS):Prop where
 v0:tl v.v0
 v1:tl v.v1
 v2:tl v.v2
 v3:tl v.v3
theorem si.eu{v:VS}(h:si v)(i:Nat):tl (v.eu i):=by match i with|0=>exact h.v0|1=>exact h.v1|2=>exact h.v2|i+3=>exact h.v3
def eU(v:VS):Array ag:=#[ad v.v0.bf,I aj v.v0.ip,I R v.v0.aB,ad v.v1.bf,I aj v.v1.ip,I R v.v1.aB,ad v.v2.bf,I aj v.v2.ip,I R v.v2.aB,ad v.v3.bf,I aj v.v3.ip,I R v.v3.aB]
def qv(v:VS):ag:=aw (eU v)
theorem XZ(v:VS)(i:Nat)(h:i<=3):(eU v)[i*3]?=U (ad (v.eu i).bf)/\(eU v)[i*3+1]?=U (I aj (v.eu i).ip)/\(eU v)[i*3+2]?=U (I R (v.eu i).aB):=by rcases(by omega:i=0\/i=1\/i=2\/i=3)with rfl|rfl|rfl|rfl<;>exact⟨J,J,J⟩
def Gh(n:NT)(al:VL):Bool:=pL n.ip n.bits n.lo n.hi al.ip al.aB
def tG(v:VS)(c:CD):Bool:=if c.op=8 then Gl.tr c.ny (v.eu c.a6.toNat).bf else if c.op=9 then Gh c.dr (v.eu c.a6.toNat)else true
def wE(r:RL)(v:VS):Bool:=r.bq.all (tG v)
set_option maxHeartbeats 4000000 in set_option maxRecDepth 100000 in theorem aeR(r:RL)(h:uU r)(oa:Option bl)(cap:Nat)(v:VS)(hv:si v)(w:ac)(H:jV oa r.bq w):ap ae 229 #[lW r oa cap,qv v] w fun e w'=>e=aq (aH (wE r v))/\Below w.heap.size w w':=by
 obtain⟨n,u⟩:=af r.bq.length;have G:=aa (Bi H n u);have h4:n<=4:=by have:=h.qO;omega
 have qL:=aa h.bq;have HL:=aa (show∀i,i<n->∃c,r.bq[i]?=U c/\r.bq.take (i+1)=r.bq.take i++[c]from fun i h=>uD (by omega));have HZ:=aa (show wE r v=r.bq.all (tG v)from J);obtain⟨aI,hz⟩:=af (wE r v);rw[<-hz]at HZ⊢;clear H hz h;obtain⟨nr,cs,⟨aN,aP⟩⟩:=r;obtain⟨vc,ja⟩:=af (eU v);have j9:vc.size=12:=by rw[ja];rfl
 unfold lW qv;simp only at G HL HZ qL u⊢;rw[<-u,<-ja];have HN:=aa u;have IA:=aa ja;clear u ja;obtain⟨V,hV,hB,hx,hy⟩:=qZ w #[I R nr,ak oa n cap,I R aN,I R aP] vc 54 73;have HY:=aa hy;have k1:=hx 1;clear hy;go_enter func229,ntmps229;go_wp2;rw[<-hV];clear hV;go_loopw[11](fun aL w'=>∃i:Nat,i<=n/\aL=I R i/\Hid ((cs.take i).all (tG v)=true)/\Hid (Below V.heap.size V w'))(fun aL _=>n-(intOf aL).toNat);case atStart=>exact⟨0,by omega,J,aa J,aa (aS _ _)⟩
 case round=>
  obtain⟨i,hi,rfl,HG,S⟩:=hrel;have HW:=aa (ax hB S.out);by_cases am:i<n
  .obtain⟨c,cH,fF⟩:=HL.out i am;obtain⟨b,off,rfl,ds,HA⟩:=G.out (by omega);have hA:=(HA.out i c cH).au fun j=>(kL HW.out).1 b j ds;have HQ:=aa (Sn (f:=tG v) fF HG.out);have bh:=hA.ok;have mR:=qL.out c (iy cH);obtain⟨a,pT,A'⟩:=K_ mR;obtain⟨al,uo⟩:=af (v.eu a);have Bc:tl al:=by rw[uo];exact hv.eu a
   have t7:=XZ v a A';rw[<-IA.out,<-uo]at t7;have q0:=ao S.out ((HY.out (a*3)).trans t7.1);have q1:=ao S.out ((HY.out (a*3+1)).trans t7.2.1);have q2:=ao S.out ((HY.out (a*3+2)).trans t7.2.2);have Xj:w.heap.size+1<wr.heap.size:=oA q0;have g1:=ao S.out k1;have HM:=fun(hg:c.ny.size<=24)w=>Gl.ajf c.ny al.bf (by omega) Bc.bf w;have HH:=fun w=>aii c.dr.ip bh.dr.ip c.dr.bits c.dr.lo c.dr.hi bh.dr.bits bh.dr.lo bh.dr.hi al.ip Bc.ip al.aB w;have Ff:tG v c=if c.op=8 then Gl.tr c.ny al.bf else if c.op=9 then Gh c.dr al else true:=by unfold tG;rw[pT,Int.toNat_natCast,uo]
   rw[Ff]at HQ;have hs:c.op=8->c.ny.size<=24:=fun h8=>by
    cases mR with
     |wF a k v ha q h6 hv=>simp only at h8;omega
     |wX a v m ha hv hm=>simp only at h8;omega
     |v_ a g ha hg=>exact(DC hg).2
     |dr a ip b lo hi ha bt M=>simp only at h8;omega
   obtain⟨p0,p1,p2,p3,wz,vY,vR,vX,w8,_⟩:=hA;clear mR t7 uo Bc bh cH fF Ff;obtain⟨Nm,Mx,J6⟩:=al;obtain⟨a6,op,vv,mm,gl,⟨ip,cV,lo,hh⟩⟩:=c;simp only at p0 p1 p2 p3 wz vY vR vX w8 HH HM pT hs HQ q0 q1 q2;unfold Gh at HQ;simp only at HQ;subst pT;have i1:(0:Int)<=a:=by omega
   have i2:(a:Int)<4:=by omega
   by_cases h8:op=8
   .subst h8;replace HM:=HM (hs J);rw[if_pos J]at HQ;obtain⟨A0,uQ⟩:=af (Gl.tr gl Nm);rw[<-uQ]at HQ HM;clear uQ hs HH;cases A0 with
     |true=>
      go_wp2_with(go_at_call 254;refine(HM _).mono ?_;rintro e w1⟨rfl,bb⟩);go_round;case rel=>exact⟨i+1,by omega,by go_num,HQ,aa (ax (ax S.out (ax (ai _ _) (ai _ _))) bb)⟩
      case measure=>simp[intOf];omega
     |false=>have HF:=aa (show aI=false by rw[HZ.out];exact GU HQ.out);go_wp2_with(go_at_call 254;refine(HM _).mono ?_;rintro e w1⟨rfl,bb⟩);go_ret;exact⟨gm HF.out.symm,ax (ax HW.out (ax (ai _ _) (ai _ _))) bb⟩
   .rw[if_neg h8]at HQ;by_cases h9:op=9
    .subst h9;rw[if_pos J]at HQ;obtain⟨A0,uQ⟩:=af (pL ip cV lo hh Mx J6);rw[<-uQ]at HQ HH;clear uQ hs HM;cases A0 with
      |true=>
       go_wp2_with(go_at_call 255;refine(HH _).mono ?_;rintro e w1⟨rfl,bb⟩);go_round;case rel=>exact⟨i+1,by omega,by go_num,HQ,aa (ax (ax S.out (ax (ai _ _) (ai _ _))) bb)⟩
       case measure=>simp[intOf];omega
      |false=>have HF:=aa (show aI=false by rw[HZ.out];exact GU HQ.out);go_wp2_with(go_at_call 255;refine(HH _).mono ?_;rintro e w1⟨rfl,bb⟩);go_ret;exact⟨gm HF.out.symm,ax (ax HW.out (ax (ai _ _) (ai _ _))) bb⟩
    .rw[if_neg h9]at HQ;clear HM HH hs;go_wp2;go_round;case rel=>exact⟨i+1,by omega,by go_num,HQ,aa (ax S.out (ax (ai _ _) (ai _ _)))⟩
     case measure=>simp[intOf];omega
  .obtain rfl:i=n:=by omega
   have HF:=aa (show aI=true by have:=HG.out;rw[li (by rw[HN.out];exact aA _)]at this;rw[HZ.out,this]);go_wp2;go_ret;exact⟨gm HF.out.symm,HW.out⟩
def fN(k:KL)(bg:bG):List RL->Nat->bG×Nat|[],_=>(bg,0)|r::t,i=>if mJ r k then(if nx r then(⟨4,0⟩,i)else(r.dO,0))else fN k bg t (i+1)
def eA(p:bj)(k:KL):bG×Nat:=if k.ej=3221225534 then fN k p.bg p.bw 0 else(⟨3,0⟩,0)
def gZ(k:KL)(v:VS)(bg:bG):List RL->bG|[]=>bg|r::t=>if mJ r k&&wE r v then r.dO else gZ k v bg t
def ir(p:bj)(k:KL)(v:VS):bG:=if k.ej=3221225534 then gZ k v p.bg p.bw else⟨3,0⟩
def fV(a:bG)(i:Nat):Array ag:=#[I R a.aF,I R a.aU,I R i]
def sZ(x:bG×Nat):ag:=aw (fV x.1 x.2)
def x7(p:bj)(k:KL):ag:=az #[if cM p=0 then sZ (eA p k)else sZ (⟨0,0⟩,0),cj (cM p)]
def Bl(p:bj)(k:KL)(v:VS):ag:=az #[if cM p=0 then fe (ir p k v)else fe ⟨0,0⟩,cj (cM p)]
theorem qB:(ae.info? 95).map (·.size)=U 3:=by kernel_rfl
theorem xY(a:bG)(i:Nat):(fV a i).all (·.oneCell')=true:=by simp[fV,fG]
theorem Ix{fn:Func}{p ay:Tmp}(h:fn.results=#[.cell p 95, .tmp ay])(tmps:Array ag)(w:ac)(g:Nat)(cs:Array ag)(v:ag)(F:cs.size=3)(hp:tmps.getD p undef=av (U ⟨g,0,ab⟩))(hv:tmps.getD ay undef=v)(hg:w.heap[g]?=U (.cells cs 95 (0,0))):(results fn tmps).run ae w= .ok (az #[aw cs,v]) w:=by rw[xf h,hp,hv];have hl:=tT (P:=ae) w g 95 95 cs (0,0) _ hg underlying95 J (by rw[F];exact qB);simp[asAddr,hl]
theorem sQ{fn:Func}{p ay:Tmp}(h:fn.results=#[.cell p 30, .tmp ay])(tmps:Array ag)(w:ac)(g:Nat)(cs:Array ag)(v:ag)(F:cs.size=2)(hp:tmps.getD p undef=av (U ⟨g,0,ab⟩))(hv:tmps.getD ay undef=v)(hg:w.heap[g]?=U (.cells cs 30 (0,0))):(results fn tmps).run ae w= .ok (az #[aw cs,v]) w:=by rw[xf h,hp,hv];have hl:=tT (P:=ae) w g 30 30 cs (0,0) _ hg underlying30 J (by rw[F];exact iP);simp[asAddr,hl]
theorem Qo(w:ac)(x al aI:Array ag)(tx ty Eb:TypeId):∃V,V=((w.alloc (.cells x tx)).alloc (.cells al ty)).alloc (.cells aI Eb)/\Below w.heap.size w V/\V.heap.size=w.heap.size+3/\(∀j:Nat,V.cell? ⟨w.heap.size,j,ab⟩=x[j]?)/\(∀j:Nat,V.cell? ⟨w.heap.size+1,j,ab⟩=al[j]?)/\V.heap[w.heap.size+2]?=U (.cells aI Eb (0,0)):=by
 obtain⟨cv,hU,hb,q,h2⟩:=qZ w x al tx ty;have F:cv.heap.size=w.heap.size+2:=by rw[hU,bA,bA]
 refine⟨cv.alloc (.cells aI Eb),by rw[hU],ax hb (ai _ _),by rw[bA,F],fun j=>?_,fun j=>?_,?_⟩;.rw[<-q j];exact(kL (ai cv _)).1 _ j (by omega)
 .rw[<-h2 j];exact(kL (ai cv _)).1 _ j (by omega)
 .rw[<-F];exact a7 _ _
theorem N0{α:Type}{cs:List α}{i:Nat}(h:i<cs.length):∃c,cs[i]?=U c/\cs.drop i=c::cs.drop (i+1):=⟨cs[i],cq h,(List.getElem_cons_drop h).symm⟩
set_option maxHeartbeats 1000000 in set_option maxRecDepth 100000 in theorem TC(p:bj)(oa:Option bl)(cap:Nat)(k:KL)(z:hc k)(w:ac)(hp:fc oa cap p w):ap ae 102 #[ep p oa cap,cR k] w fun e w'=>e=aq (x7 p k)/\Below w.heap.size w w':=by
 obtain⟨n,u⟩:=af p.bw.length;obtain⟨V,hV,hB,jt,hx,hy,hz⟩:=Qo w #[ak oa p.bw.length cap,I R p.bg.aF,I R p.bg.aU] (bX k) #[I R 0,I R 0,I R 0] 32 68 95;have pl:=KJ p oa cap V (hp.au hB);have G:=aa (zg hp n u);have Dl:n<=9223372036854775807:=by have q:=hp.le;have h2:=hp.cap;unfold maxLen at h2;omega
 have dm:=hp.ok;clear hp;unfold bX at hV hy;by_cases M:cM p=0
 .have bh:=BW M dm;have HV:=aa (show x7 p k=az #[sZ (eA p k), .nilIface]by unfold x7;rw[if_pos M,M];rfl);rw[M,kD]at pl;have qj:=aa bh.bw;have eL:n<=12:=by have:=bh.qO;omega
  have gN:=fun r L oa cap X H=>XF r L oa cap k z X H;have D_:=aa z;clear M dm bh z;obtain⟨rs,⟨aN,aP⟩⟩:=p;have HL:=aa (show∀i,i<n->∃c,rs[i]?=U c/\rs.drop i=c::rs.drop (i+1)from fun i h=>N0 (by simp only at u;omega));unfold ep cR bX at*;simp only at*;rw[<-u]at hV hx pl⊢;have HN:=aa u;clear u;obtain⟨dv,kn,b_,b1,b2,b3⟩:=k;simp only at*;have x0:=hx 0;have x1:=hx 1;have x2:=hx 2;have y0:=hy 0;have y1:=hy 1;have y2:=hy 2;have y3:=hy 3;have y4:=hy 4;have y5:=hy 5;simp only[cK,cT,c7]at x0 x1 x2 y0 y1 y2 y3 y4 y5;clear hx hy;by_cases ha:dv=3221225534
  .have HJ:=aa (show eA ⟨rs,⟨aN,aP⟩⟩ ⟨dv,kn,b_,b1,b2,b3⟩=fN ⟨dv,kn,b_,b1,b2,b3⟩ ⟨aN,aP⟩ rs 0 from if_pos ha);have mx:(dv:Int)=3221225534:=by omega
   rw[mx]at hV y0⊢;have ln:=aa mx;clear ha mx;go_enter func102,ntmps102;go_wp2_with(go_at_call 35;rw[<-hV];clear hV;refine pl.mono ?_;rintro e X⟨rfl,hX⟩;have X0:=ao hX x0;have X1:=ao hX x1;have X2:=ao hX x2;have Y0:=ao hX y0;have Y1:=ao hX y1;have Y2:=ao hX y2;have Y3:=ao hX y3;have Y4:=ao hX y4;have Y5:=ao hX y5);go_loopw[23](fun aL w'=>∃i:Nat,i<=n/\aL=I R i/\Hid (fN ⟨dv,kn,b_,b1,b2,b3⟩ ⟨aN,aP⟩ rs 0=fN ⟨dv,kn,b_,b1,b2,b3⟩ ⟨aN,aP⟩ (rs.drop i) i)/\Hid (Below X.heap.size X w'))(fun aL _=>n-(intOf aL).toNat);case atStart=>exact⟨0,by omega,J,aa J,aa (aS _ _)⟩
   case round=>
    obtain⟨i,hi,rfl,HG,S⟩:=hrel;have HW:=aa (ax (ax hB hX) S.out);have kB:=aa (ax hX S.out);have vo:w.heap.size+2<V.heap.size:=by omega
    by_cases am:i<n
    .obtain⟨c,cH,q9⟩:=HL.out i am;obtain⟨b,off,rfl,ds,HA⟩:=G.out (by omega);obtain⟨dj,cc,cZ⟩:=HA.out i c cH;have hR:=cZ.au ds HW.out;clear cZ;have pu:=qj.out c (iy cH);have c4:=gN c pu dj cc;have oF:=fun X H=>ajZ c pu.qO dj cc X H;have kQ:=aa hR.bq;have cL:=aa (show fN ⟨dv,kn,b_,b1,b2,b3⟩ ⟨aN,aP⟩ rs 0=if mJ c ⟨dv,kn,b_,b1,b2,b3⟩then(if nx c then(⟨4,0⟩,i)else(c.dO,0))else fN ⟨dv,kn,b_,b1,b2,b3⟩ ⟨aN,aP⟩ (rs.drop (i+1)) (i+1)by rw[HG.out,q9,fN]);obtain⟨uP,rP⟩:=af (mJ c ⟨dv,kn,b_,b1,b2,b3⟩);obtain⟨uB,qE⟩:=af (nx c);rw[<-rP]at c4 cL;rw[<-qE]at oF cL;obtain⟨p0,p1,p2,p3,_,_,_,_⟩:=hR;clear rP qE pu cH q9 HG;obtain⟨nr,cs,⟨rk,re⟩⟩:=c;unfold lW at c4 oF;simp only at p0 p1 p2 p3 c4 oF cL kQ;simp only[ln.out]at c4;have g0:=ao S.out X0;have z0:=ao S.out Y0;have z1:=ao S.out Y1;have z2:=ao S.out Y2;have z3:=ao S.out Y3;have z4:=ao S.out Y4;have z5:=ao S.out Y5;have Xj:w.heap.size+1<wr.heap.size:=oA z0;cases uP with
      |false=>
       rw[if_neg (by decide)]at cL;go_wp2_with(go_at_call 141;refine(c4 _ (kQ.out.au (ai _ _))).mono ?_;rintro e w1⟨rfl,bb⟩);go_round;case rel=>exact⟨i+1,by omega,by go_num,cL,aa (ax S.out (ax (ai _ _) bb))⟩
       case measure=>simp[intOf];omega
      |true=>
       rw[if_pos J]at cL;obtain⟨W1,dU,lm,_,gu⟩:=eN wr #[I R nr,ak dj cs.length cc,I R rk,I R re] 54;have r0:=gu 0;have r1:=gu 1;have r2:=gu 2;have r3:=gu 3;simp only[cK,cT,c7]at r0 r1 r2 r3;clear gu;cases uB with
        |true=>rw[if_pos J]at cL;go_wp2_with(first|(go_at_call 141;rw[<-dU];refine(c4 _ (kQ.out.au lm)).mono ?_;rintro e w1⟨rfl,bb⟩;have s0:=ao bb r0;have s1:=ao bb r1;have s2:=ao bb r2;have s3:=ao bb r3;have dw:=aa bb;clear bb)|(go_at_call 142;refine(oF _ ((kQ.out.au lm).au dw.out)).mono ?_;rintro e w2⟨rfl,dB⟩;have dg:w2.heap[w.heap.size+2]?=U (.cells #[I R 0,I R 0,I R 0] 95 (0,0)):=((ax kB.out (ax lm (ax dw.out dB))).block _ vo).trans hz)|(refine bK J 95 _ _ J (w.heap.size+2) (fV ⟨4,0⟩ i) J J 95 _ dg qB J (xY _ _) ?_));refine ba (v:=az #[aw (fV ⟨4,0⟩ i), .nilIface]) (Ix J _ _ (w.heap.size+2) (fV ⟨4,0⟩ i) _ J J J (aV _ _ _ _ _ _ dg)) J ⟨?_,below_setRow (ax HW.out (ax lm (ax dw.out dB))) (by omega) _⟩;rw[HV.out,HJ.out,cL.out];rfl
        |false=>rw[if_neg (by decide)]at cL;go_wp2_with(first|(go_at_call 141;rw[<-dU];refine(c4 _ (kQ.out.au lm)).mono ?_;rintro e w1⟨rfl,bb⟩;have s0:=ao bb r0;have s1:=ao bb r1;have s2:=ao bb r2;have s3:=ao bb r3;have dw:=aa bb;clear bb)|(go_at_call 142;refine(oF _ ((kQ.out.au lm).au dw.out)).mono ?_;rintro e w2⟨rfl,dB⟩;have t2:=ao dB s2;have t3:=ao dB s3;have dg:w2.heap[w.heap.size+2]?=U (.cells #[I R 0,I R 0,I R 0] 95 (0,0)):=((ax kB.out (ax lm (ax dw.out dB))).block _ vo).trans hz)|(refine bK J 95 _ _ J (w.heap.size+2) (fV ⟨rk,re⟩ 0) J J 95 _ dg qB J (xY _ _) ?_));refine ba (v:=az #[aw (fV ⟨rk,re⟩ 0), .nilIface]) (Ix J _ _ (w.heap.size+2) (fV ⟨rk,re⟩ 0) _ J J J (aV _ _ _ _ _ _ dg)) J ⟨?_,below_setRow (ax HW.out (ax lm (ax dw.out dB))) (by omega) _⟩;rw[HV.out,HJ.out,cL.out];rfl
    .obtain rfl:i=n:=by omega
     have cL:=aa (show fN ⟨dv,kn,b_,b1,b2,b3⟩ ⟨aN,aP⟩ rs 0=(⟨aN,aP⟩,0)by rw[HG.out,List.drop_eq_nil_of_le (by rw[HN.out];exact aA _),fN]);have g1:=ao S.out X1;have g2:=ao S.out X2;have dg:wr.heap[w.heap.size+2]?=U (.cells #[I R 0,I R 0,I R 0] 95 (0,0)):=(kB.out.block _ vo).trans hz;go_wp2_with(refine bK J 95 _ _ J (w.heap.size+2) (fV ⟨aN,aP⟩ 0) J J 95 _ dg qB J (xY _ _) ?_);refine ba (v:=az #[aw (fV ⟨aN,aP⟩ 0), .nilIface]) (Ix J _ _ (w.heap.size+2) (fV ⟨aN,aP⟩ 0) _ J J J (aV _ _ _ _ _ _ dg)) J ⟨?_,below_setRow HW.out (by omega) _⟩;rw[HV.out,HJ.out,cL.out];rfl
  .have HJ:=aa (show eA ⟨rs,⟨aN,aP⟩⟩ ⟨dv,kn,b_,b1,b2,b3⟩=(⟨3,0⟩,0)from if_neg ha);have mx:¬(dv:Int)=3221225534:=by omega
   clear ha;go_enter func102,ntmps102;go_wp2_with(first|(go_at_call 35;rw[<-hV];clear hV;refine pl.mono ?_;rintro e X⟨rfl,hX⟩;have Y0:=ao hX y0;have dg:X.heap[w.heap.size+2]?=U (.cells #[I R 0,I R 0,I R 0] 95 (0,0)):=(hX.block _ (by omega)).trans hz)|(refine bK J 95 _ _ J (w.heap.size+2) (fV ⟨3,0⟩ 0) J J 95 _ dg qB J (xY _ _) ?_));refine ba (v:=az #[aw (fV ⟨3,0⟩ 0), .nilIface]) (Ix J _ _ (w.heap.size+2) (fV ⟨3,0⟩ 0) _ J J J (aV _ _ _ _ _ _ dg)) J ⟨?_,below_setRow (ax hB hX) (by omega) _⟩;rw[HV.out,HJ.out];rfl
 .have HV:=aa (show x7 p k=az #[sZ (⟨0,0⟩,0),b8 43 (I R (cM p:Nat))]by unfold x7;rw[if_neg M,iL M]);rw[iL M]at pl;clear M dm z G;unfold ep cR bX at*;have x0:=hx 0;have x1:=hx 1;have x2:=hx 2;simp only[cK,cT,c7]at x0 x1 x2;clear hx hy;go_enter func102,ntmps102;go_wp2_with(first|(go_at_call 35;rw[<-hV];clear hV;refine pl.mono ?_;rintro e X⟨rfl,hX⟩;have dg:X.heap[w.heap.size+2]?=U (.cells #[I R 0,I R 0,I R 0] 95 (0,0)):=(hX.block _ (by omega)).trans hz)|(refine bK J 95 _ _ J (w.heap.size+2) (fV ⟨0,0⟩ 0) J J 95 _ dg qB J (xY _ _) ?_));refine ba (v:=az #[aw (fV ⟨0,0⟩ 0),b8 43 (I R (cM p:Nat))]) (Ix J _ _ (w.heap.size+2) (fV ⟨0,0⟩ 0) _ J J J (aV _ _ _ _ _ _ dg)) J ⟨?_,below_setRow (ax hB hX) (by omega) _⟩;rw[HV.out];rfl
end Go.Proofs.YtefdakbahplnbaaGreatDoor
