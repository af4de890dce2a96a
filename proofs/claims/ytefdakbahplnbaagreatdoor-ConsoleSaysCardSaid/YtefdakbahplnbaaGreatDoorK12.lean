/- api.Forms. -/
import Derived.Test.YtefdakbahplnbaaGreatDoorK7
open Go.Proofs.Tryz
open Decidable renaming byContradiction->JH
open Go renaming Calls->ap,World->ac,heap_alloc_new->a7
open Go.IntKind renaming i64->R
open Go.Proofs.Tryz renaming prog->ae
open Go.Value renaming agg->aw,int->I,string->ad
namespace Go.Proofs.YtefdakbahplnbaaGreatDoor
open Go.RowKit
def qX:Array Value:=#[ad ⟨#[114,101,97,100]⟩,I R 1,I R 1,I R 0,I R 0,ad ⟨#[119,114,105,116,101]⟩,I R 1,I R 1,I R 0,I R 0,ad ⟨#[111,112,101,110]⟩,I R 2,I R 1,I R 1,I R 0,ad ⟨#[99,108,111,115,101]⟩,I R 1,I R 0,I R 0,I R 0,ad ⟨#[115,116,97,116]⟩,I R 2,I R 0,I R 0,I R 0,ad ⟨#[114,101,110,97,109,101]⟩,I R 2,I R 2,I R 0,I R 0,ad ⟨#[99,111,110,110,101,99,116]⟩,I R 1,I R 3,I R 0,I R 0,ad ⟨#[108,105,110,107]⟩,I R 2,I R 2,I R 1,I R 0,ad ⟨#[115,101,110,100]⟩,I R 1,I R 1,I R 3,I R 1]
set_option maxRecDepth 100000 in set_option maxHeartbeats 2000000 in theorem Gi(w:ac):ap ae 92 #[] w fun e w'=>e= .returned (aw qX)/\Below w.heap.size w w':=by go_enter func92,ntmps92;go_wp2_with(first|(refine wpList_buildTo J 188 _ J (some 19) J qX (by kernel_rfl) ?_)|(refine wpList_store_row J 188 _ _ J w.heap.size qX J J 188 _ (a7 _ _) (by kernel_rfl) (by kernel_rfl) (by kernel_rfl) ?_));rw[World.setRow_alloc_new];exact bodyPost_ret (v:=aw qX) (results_cell_row J _ _ w.heap.size 188 qX (0,0) _ J (a7 _ _) underlying188 J (by kernel_rfl)) J ⟨J,(Below.refl _ _).alloc (Nat.le_refl _) _⟩
def n5(nr:Nat):Value:=aw #[I R (a1 nr 0:Nat),I R (a1 nr 1:Nat),I R (a1 nr 2:Nat),I R (a1 nr 3:Nat)]
def AF(nr:Nat):Value:=aw #[ad ⟨(qa nr).toArray⟩,I R (a1 nr 0:Nat),I R (a1 nr 1:Nat),I R (a1 nr 2:Nat),I R (a1 nr 3:Nat)]
theorem V7(nr:Nat)(h:nr<=8)(w:ac):(Instr.index 188 (aw qX) (I R nr)).run ae w= .ok (AF nr) w:=by rcases sf h with rfl|rfl|rfl|rfl|rfl|rfl|rfl|rfl|rfl<;>kernel_rfl
theorem Sv(nr:Nat)(w:ac):(Instr.field 187 (AF nr) 1).run ae w= .ok (n5 nr) w:=by kernel_rfl
theorem afA(nr:Nat)(w:ac):(Instr.field 187 (AF nr) 0).run ae w= .ok (ad ⟨(qa nr).toArray⟩) w:=by kernel_rfl
end Go.Proofs.YtefdakbahplnbaaGreatDoor
namespace Go.Proofs.YtefdakbahplnbaaGreatDoor.Gl
open Go.RowKit
def zl(p:ByteArray)(t:Nat):Int:=match e4 (p.extract t p.size)with|none=>-1|some (_,n)=>t+n
theorem pF{p:ByteArray}{t:Nat}(h:e4 (p.extract t p.size)=none):zl p t=-1:=by unfold zl;rw[h]
theorem Kc{p:ByteArray}{t n:Nat}{f:Nat->Bool}(h:e4 (p.extract t p.size)=some (f,n)):zl p t=t+n:=by unfold zl;rw[h]
theorem aju(p:ByteArray)(t k:Nat)(ht:t<=p.size)(z:t<=k):eb (p.extract t p.size) (k-t)=fO (p.size-k) (aqh p k) (aqh p (k+1)) (aqh p (k+2)):=by unfold eb;rw[size_extract,qm p t _ ht,qm p t _ ht,qm p t _ ht,show t+(k-t)=k by omega,show t+(k-t+1)=k+1 by omega,show t+(k-t+2)=k+2 by omega,show p.size-t-(k-t)=p.size-k by omega]
theorem ql{p:ByteArray}{t k fu v:Nat}{f:Nat->Bool}(ht:t<=p.size)(z:t<=k)(am:k<p.size)(bo:aqh p k≠93)(hm:fO (p.size-k) (aqh p k) (aqh p (k+1)) (aqh p (k+2))=v):(v=0->db (fu+1) (p.extract t p.size) (k-t) f=none)/\(v≠0->∃g,db (fu+1) (p.extract t p.size) (k-t) f=db fu (p.extract t p.size) (k+v-t) g):=by
 have q:k-t<(p.extract t p.size).size/\aqh (p.extract t p.size) (k-t)≠93:=by rw[size_extract,qm p t _ ht,show t+(k-t)=k by omega];exact⟨by omega,bo⟩
 have h2:eb (p.extract t p.size) (k-t)=v:=(aju p t k ht z).trans hm;constructor;.intro hv;rw[db,if_pos q,h2,if_pos hv]
 .intro hv;rw[db,if_pos q,h2,if_neg hv,show k-t+v=k+v-t by omega];exact⟨_,J⟩
theorem Rg{p:ByteArray}{t k fu:Nat}{f:Nat->Bool}(ht:t<=p.size)(z:t<=k)(h:¬(k<p.size/\aqh p k≠93)):db (fu+1) (p.extract t p.size) (k-t) f=some (k-t,f):=by rw[db,if_neg];rw[size_extract,qm p t _ ht,show t+(k-t)=k by omega];intro h';exact h ⟨by omega,h'.2⟩
set_option maxRecDepth 10000 in set_option maxHeartbeats 1000000 in theorem agq(p:ByteArray)(t:Nat)(_ht:t<p.size)(hz:p.size<=1000)(u:kT (p.extract t p.size)=true)(Ll:t+1<p.size)(b1:((aqh p (t+1):Int)==33)=true)(w:ac):ap ae 152 #[ad p,I R t] w fun e w'=>e= .returned (I R (zl p t))/\w'=w:=by
 have hB:g' (p.extract t p.size)=2:=by unfold g';rw[u];rfl
 have ox:e4 (p.extract t p.size)=f_ true 2 (p.size-t) (db (p.size-t+1) (p.extract t p.size) 2 fun _=>false):=by unfold e4;rw[u,hB,size_extract]
 have G:=aa ox;clear ox hB u;have e1:=aqi p (t+1) Ll;have d0:decide ((t:Int)+1<(p.size:Int))=true:=by simp;omega
 .skip;go_enter func152,ntmps152;go_wp2_with fail;go_loop[5,6](fun i c=>∃(k:Nat)(f:Nat->Bool)(ii b6:Nat),t<=k/\k<=p.size/\i=I R k/\c=I R ii/\ii+t+2<=k/\(ii=0↔k=t+2)/\p.size-k<b6/\db b6 (p.extract t p.size) (k-t) f=db (p.size-t+1) (p.extract t p.size) 2 (fun _=>false))(fun i _=>p.size-(intOf i).toNat);case atStart=>exact⟨t+2,fun _=>false,0,p.size-t+1,by omega,by omega,by go_num,J,by omega,by simp,by omega,by rw[show t+2-t=2 by omega]⟩
  case round=>
   obtain⟨k,f,ii,b6,dY,gG,rfl,rfl,VF,zS,F0,cX⟩:=hrel;obtain⟨fu,rfl⟩:∃fu,b6=fu+1:=⟨b6-1,by omega⟩;have dL:=aa cX;have zk:=aa zS;clear cX zS;by_cases iE:k<p.size/\aqh p k≠93
   .obtain⟨am,bo⟩:=iE;have nh:=aqi p k am;have mK:(((aqh p k:Nat):Int)!=93)=true:=by rw[bne_iff_ne];omega
    have fK:decide ((k:Int)<(p.size:Int))=true:=by simp;omega
    cases n0:lq (aqh p k)
    .have hm:fO (p.size-k) (aqh p k) (aqh p (k+1)) (aqh p (k+2))=0:=by unfold fO;rw[if_neg (by rw[n0];simp)]
     have HV:=aa (pF (by rw[G.out,<-dL.out,(ql (by omega) dY am bo hm).1 J];rfl));clear G dL hm;go_wp2_with(go_at_call 199;refine(qq _ _).mono ?_;rintro e w'⟨rfl,rfl⟩);go_ret;exact⟨ia (by rw[HV.out]),J⟩
    .by_cases q:k+1<p.size
     .have d1:decide ((k:Int)+1<(p.size:Int))=true:=by simp;omega
      have e1:=aqi p (k+1) q;by_cases gQ:aqh p (k+1)=45
      .have BC:(((aqh p (k+1):Nat):Int)==45)=true:=by rw[beq_iff_eq];omega
       by_cases h2:k+2<p.size
       .have b2:((k:Int)+1+1==(p.size:Int))=false:=by rw[beq_eq_false_iff_ne];omega
        have Of:((k:Int)+2==(p.size:Int))=false:=by rw[beq_eq_false_iff_ne];omega
        have e2:=aqi p (k+2) h2;cases n2:lq (aqh p (k+2))
        .have hm:fO (p.size-k) (aqh p k) (aqh p (k+1)) (aqh p (k+2))=0:=by unfold fO;rw[if_pos n0,if_neg (by omega),if_pos gQ,if_neg (by omega),if_neg (by rw[n2];simp)]
         clear gQ;have HV:=aa (pF (by rw[G.out,<-dL.out,(ql (by omega) dY am bo hm).1 J];rfl));clear G dL hm;go_wp2_with(go_at_call 199;refine(qq _ _).mono ?_;rintro e w'⟨rfl,rfl⟩);go_ret;exact⟨ia (by rw[HV.out]),J⟩
        .by_cases fW:aqh p (k+2)<aqh p k
         .have En:decide ((aqh p (k+2):Int)<(aqh p k:Int))=true:=by simp;omega
          have hm:fO (p.size-k) (aqh p k) (aqh p (k+1)) (aqh p (k+2))=0:=by unfold fO;rw[if_pos n0,if_neg (by omega),if_pos gQ,if_neg (by omega),if_pos n2,if_pos fW]
          clear gQ;have HV:=aa (pF (by rw[G.out,<-dL.out,(ql (by omega) dY am bo hm).1 J];rfl));clear G dL hm;go_wp2_with(go_at_call 199;refine(qq _ _).mono ?_;rintro e w'⟨rfl,rfl⟩);go_ret;exact⟨ia (by rw[HV.out]),J⟩
         .have En:decide ((aqh p (k+2):Int)<(aqh p k:Int))=false:=by simp;omega
          have hm:fO (p.size-k) (aqh p k) (aqh p (k+1)) (aqh p (k+2))=3:=by unfold fO;rw[if_pos n0,if_neg (by omega),if_pos gQ,if_neg (by omega),if_pos n2,if_neg fW]
          clear gQ;obtain⟨g,hg⟩:=(ql (fu:=fu) (f:=f) (by omega) dY am bo hm).2 (by omega);have HG:=aa (hg.symm.trans dL.out);clear hg G dL hm;go_wp2_with(go_at_call 199;refine(qq _ _).mono ?_;rintro e w'⟨rfl,rfl⟩);go_round;case rel=>exact⟨k+3,g,ii+1,fu,by omega,by omega,by go_num,by go_num,by omega,by omega,by omega,HG.out⟩
          case measure=>simp[intOf];omega
       .have b2:((k:Int)+1+1==(p.size:Int))=true:=by rw[beq_iff_eq];omega
        have Of:((k:Int)+2==(p.size:Int))=true:=by rw[beq_iff_eq];omega
        have hm:fO (p.size-k) (aqh p k) (aqh p (k+1)) (aqh p (k+2))=0:=by unfold fO;rw[if_pos n0,if_neg (by omega),if_pos gQ,if_pos (by omega)]
        clear gQ;have HV:=aa (pF (by rw[G.out,<-dL.out,(ql (by omega) dY am bo hm).1 J];rfl));clear G dL hm;go_wp2_with(go_at_call 199;refine(qq _ _).mono ?_;rintro e w'⟨rfl,rfl⟩);go_ret;exact⟨ia (by rw[HV.out]),J⟩
      .have BC:(((aqh p (k+1):Nat):Int)==45)=false:=by rw[beq_eq_false_iff_ne];omega
       have hm:fO (p.size-k) (aqh p k) (aqh p (k+1)) (aqh p (k+2))=1:=by unfold fO;rw[if_pos n0,if_neg (by omega),if_neg gQ]
       clear gQ;obtain⟨g,hg⟩:=(ql (fu:=fu) (f:=f) (by omega) dY am bo hm).2 (by omega);have HG:=aa (hg.symm.trans dL.out);clear hg G dL hm;go_wp2_with(go_at_call 199;refine(qq _ _).mono ?_;rintro e w'⟨rfl,rfl⟩);go_round;case rel=>exact⟨k+1,g,ii+1,fu,by omega,by omega,by go_num,by go_num,by omega,by omega,by omega,HG.out⟩
       case measure=>simp[intOf];omega
     .have d1:decide ((k:Int)+1<(p.size:Int))=false:=by simp;omega
      have hm:fO (p.size-k) (aqh p k) (aqh p (k+1)) (aqh p (k+2))=1:=by unfold fO;rw[if_pos n0,if_pos (by omega)]
      obtain⟨g,hg⟩:=(ql (fu:=fu) (f:=f) (by omega) dY am bo hm).2 (by omega);have HG:=aa (hg.symm.trans dL.out);clear hg G dL hm;go_wp2_with(go_at_call 199;refine(qq _ _).mono ?_;rintro e w'⟨rfl,rfl⟩);go_round;case rel=>exact⟨k+1,g,ii+1,fu,by omega,by omega,by go_num,by go_num,by omega,by omega,by omega,HG.out⟩
      case measure=>simp[intOf];omega
   .have bN:=Rg (fu:=fu) (f:=f) (by omega) dY iE;have cZ:e4 (p.extract t p.size)=f_ true 2 (p.size-t) (some (k-t,f)):=by rw[G.out,<-dL.out,bN]
    clear G dL bN;by_cases eR:k=p.size
    .have HV:=aa (pF (by rw[cZ];simp[f_,eR]));have fK:decide ((k:Int)<(p.size:Int))=false:=by simp;omega
     have yJ:((k:Int)==(p.size:Int))=true:=by rw[beq_iff_eq];omega
     clear cZ eR iE;go_wp2_with fail;go_ret;exact⟨ia (by rw[HV.out]),J⟩
    .have am:k<p.size:=by omega
     have nk:aqh p k=93:=JH fun h=>iE ⟨am,h⟩;have nh:=aqi p k am;have mK:(((aqh p k:Nat):Int)!=93)=false:=by rw[bne_eq_false_iff_eq];omega
     have fK:decide ((k:Int)<(p.size:Int))=true:=by simp;omega
     have yJ:((k:Int)==(p.size:Int))=false:=by rw[beq_eq_false_iff_ne];omega
     clear iE nk;by_cases hb:ii=0
     .have kF:=zk.out.1 hb;have HV:=aa (pF (by rw[cZ];simp[f_,kF]));have It:((ii:Int)==0)=true:=by rw[beq_iff_eq];omega
      clear cZ hb eR kF;go_wp2_with fail;go_ret;exact⟨ia (by rw[HV.out]),J⟩
     .have kF:¬k=t+2:=fun h=>hb (zk.out.2 h);have HV:=aa (Kc (p:=p) (t:=t) (n:=k-t+1) (f:=cS (if true=true then fun i=>!f i else f) 47 false) (by rw[cZ];simp only[f_];rw[if_neg (by omega)]));have It:((ii:Int)==0)=false:=by rw[beq_eq_false_iff_ne];omega
      clear cZ hb eR kF;go_wp2_with fail;go_ret;exact⟨ia (by rw[HV.out];omega),J⟩
set_option maxRecDepth 10000 in set_option maxHeartbeats 1000000 in theorem aj6(p:ByteArray)(t:Nat)(_ht:t<p.size)(hz:p.size<=1000)(u:kT (p.extract t p.size)=false)(Ll:t+1<p.size)(b1:((aqh p (t+1):Int)==33)=false)(w:ac):ap ae 152 #[ad p,I R t] w fun e w'=>e= .returned (I R (zl p t))/\w'=w:=by
 have hB:g' (p.extract t p.size)=1:=by unfold g';rw[u];rfl
 have ox:e4 (p.extract t p.size)=f_ false 1 (p.size-t) (db (p.size-t+1) (p.extract t p.size) 1 fun _=>false):=by unfold e4;rw[u,hB,size_extract]
 have G:=aa ox;clear ox hB u;have e1:=aqi p (t+1) Ll;have d0:decide ((t:Int)+1<(p.size:Int))=true:=by simp;omega
 .skip;go_enter func152,ntmps152;go_wp2_with fail;go_loop[5,6](fun i c=>∃(k:Nat)(f:Nat->Bool)(ii b6:Nat),t<=k/\k<=p.size/\i=I R k/\c=I R ii/\ii+t+1<=k/\(ii=0↔k=t+1)/\p.size-k<b6/\db b6 (p.extract t p.size) (k-t) f=db (p.size-t+1) (p.extract t p.size) 1 (fun _=>false))(fun i _=>p.size-(intOf i).toNat);case atStart=>exact⟨t+1,fun _=>false,0,p.size-t+1,by omega,by omega,by go_num,J,by omega,by simp,by omega,by rw[show t+1-t=1 by omega]⟩
  case round=>
   obtain⟨k,f,ii,b6,dY,gG,rfl,rfl,VF,zS,F0,cX⟩:=hrel;obtain⟨fu,rfl⟩:∃fu,b6=fu+1:=⟨b6-1,by omega⟩;have dL:=aa cX;have zk:=aa zS;clear cX zS;by_cases iE:k<p.size/\aqh p k≠93
   .obtain⟨am,bo⟩:=iE;have nh:=aqi p k am;have mK:(((aqh p k:Nat):Int)!=93)=true:=by rw[bne_iff_ne];omega
    have fK:decide ((k:Int)<(p.size:Int))=true:=by simp;omega
    cases n0:lq (aqh p k)
    .have hm:fO (p.size-k) (aqh p k) (aqh p (k+1)) (aqh p (k+2))=0:=by unfold fO;rw[if_neg (by rw[n0];simp)]
     have HV:=aa (pF (by rw[G.out,<-dL.out,(ql (by omega) dY am bo hm).1 J];rfl));clear G dL hm;go_wp2_with(go_at_call 199;refine(qq _ _).mono ?_;rintro e w'⟨rfl,rfl⟩);go_ret;exact⟨ia (by rw[HV.out]),J⟩
    .by_cases q:k+1<p.size
     .have d1:decide ((k:Int)+1<(p.size:Int))=true:=by simp;omega
      have e1:=aqi p (k+1) q;by_cases gQ:aqh p (k+1)=45
      .have BC:(((aqh p (k+1):Nat):Int)==45)=true:=by rw[beq_iff_eq];omega
       by_cases h2:k+2<p.size
       .have b2:((k:Int)+1+1==(p.size:Int))=false:=by rw[beq_eq_false_iff_ne];omega
        have Of:((k:Int)+2==(p.size:Int))=false:=by rw[beq_eq_false_iff_ne];omega
        have e2:=aqi p (k+2) h2;cases n2:lq (aqh p (k+2))
        .have hm:fO (p.size-k) (aqh p k) (aqh p (k+1)) (aqh p (k+2))=0:=by unfold fO;rw[if_pos n0,if_neg (by omega),if_pos gQ,if_neg (by omega),if_neg (by rw[n2];simp)]
         clear gQ;have HV:=aa (pF (by rw[G.out,<-dL.out,(ql (by omega) dY am bo hm).1 J];rfl));clear G dL hm;go_wp2_with(go_at_call 199;refine(qq _ _).mono ?_;rintro e w'⟨rfl,rfl⟩);go_ret;exact⟨ia (by rw[HV.out]),J⟩
        .by_cases fW:aqh p (k+2)<aqh p k
         .have En:decide ((aqh p (k+2):Int)<(aqh p k:Int))=true:=by simp;omega
          have hm:fO (p.size-k) (aqh p k) (aqh p (k+1)) (aqh p (k+2))=0:=by unfold fO;rw[if_pos n0,if_neg (by omega),if_pos gQ,if_neg (by omega),if_pos n2,if_pos fW]
          clear gQ;have HV:=aa (pF (by rw[G.out,<-dL.out,(ql (by omega) dY am bo hm).1 J];rfl));clear G dL hm;go_wp2_with(go_at_call 199;refine(qq _ _).mono ?_;rintro e w'⟨rfl,rfl⟩);go_ret;exact⟨ia (by rw[HV.out]),J⟩
         .have En:decide ((aqh p (k+2):Int)<(aqh p k:Int))=false:=by simp;omega
          have hm:fO (p.size-k) (aqh p k) (aqh p (k+1)) (aqh p (k+2))=3:=by unfold fO;rw[if_pos n0,if_neg (by omega),if_pos gQ,if_neg (by omega),if_pos n2,if_neg fW]
          clear gQ;obtain⟨g,hg⟩:=(ql (fu:=fu) (f:=f) (by omega) dY am bo hm).2 (by omega);have HG:=aa (hg.symm.trans dL.out);clear hg G dL hm;go_wp2_with(go_at_call 199;refine(qq _ _).mono ?_;rintro e w'⟨rfl,rfl⟩);go_round;case rel=>exact⟨k+3,g,ii+1,fu,by omega,by omega,by go_num,by go_num,by omega,by omega,by omega,HG.out⟩
          case measure=>simp[intOf];omega
       .have b2:((k:Int)+1+1==(p.size:Int))=true:=by rw[beq_iff_eq];omega
        have Of:((k:Int)+2==(p.size:Int))=true:=by rw[beq_iff_eq];omega
        have hm:fO (p.size-k) (aqh p k) (aqh p (k+1)) (aqh p (k+2))=0:=by unfold fO;rw[if_pos n0,if_neg (by omega),if_pos gQ,if_pos (by omega)]
        clear gQ;have HV:=aa (pF (by rw[G.out,<-dL.out,(ql (by omega) dY am bo hm).1 J];rfl));clear G dL hm;go_wp2_with(go_at_call 199;refine(qq _ _).mono ?_;rintro e w'⟨rfl,rfl⟩);go_ret;exact⟨ia (by rw[HV.out]),J⟩
      .have BC:(((aqh p (k+1):Nat):Int)==45)=false:=by rw[beq_eq_false_iff_ne];omega
       have hm:fO (p.size-k) (aqh p k) (aqh p (k+1)) (aqh p (k+2))=1:=by unfold fO;rw[if_pos n0,if_neg (by omega),if_neg gQ]
       clear gQ;obtain⟨g,hg⟩:=(ql (fu:=fu) (f:=f) (by omega) dY am bo hm).2 (by omega);have HG:=aa (hg.symm.trans dL.out);clear hg G dL hm;go_wp2_with(go_at_call 199;refine(qq _ _).mono ?_;rintro e w'⟨rfl,rfl⟩);go_round;case rel=>exact⟨k+1,g,ii+1,fu,by omega,by omega,by go_num,by go_num,by omega,by omega,by omega,HG.out⟩
       case measure=>simp[intOf];omega
     .have d1:decide ((k:Int)+1<(p.size:Int))=false:=by simp;omega
      have hm:fO (p.size-k) (aqh p k) (aqh p (k+1)) (aqh p (k+2))=1:=by unfold fO;rw[if_pos n0,if_pos (by omega)]
      obtain⟨g,hg⟩:=(ql (fu:=fu) (f:=f) (by omega) dY am bo hm).2 (by omega);have HG:=aa (hg.symm.trans dL.out);clear hg G dL hm;go_wp2_with(go_at_call 199;refine(qq _ _).mono ?_;rintro e w'⟨rfl,rfl⟩);go_round;case rel=>exact⟨k+1,g,ii+1,fu,by omega,by omega,by go_num,by go_num,by omega,by omega,by omega,HG.out⟩
      case measure=>simp[intOf];omega
   .have bN:=Rg (fu:=fu) (f:=f) (by omega) dY iE;have cZ:e4 (p.extract t p.size)=f_ false 1 (p.size-t) (some (k-t,f)):=by rw[G.out,<-dL.out,bN]
    clear G dL bN;by_cases eR:k=p.size
    .have HV:=aa (pF (by rw[cZ];simp[f_,eR]));have fK:decide ((k:Int)<(p.size:Int))=false:=by simp;omega
     have yJ:((k:Int)==(p.size:Int))=true:=by rw[beq_iff_eq];omega
     clear cZ eR iE;go_wp2_with fail;go_ret;exact⟨ia (by rw[HV.out]),J⟩
    .have am:k<p.size:=by omega
     have nk:aqh p k=93:=JH fun h=>iE ⟨am,h⟩;have nh:=aqi p k am;have mK:(((aqh p k:Nat):Int)!=93)=false:=by rw[bne_eq_false_iff_eq];omega
     have fK:decide ((k:Int)<(p.size:Int))=true:=by simp;omega
     have yJ:((k:Int)==(p.size:Int))=false:=by rw[beq_eq_false_iff_ne];omega
     clear iE nk;by_cases hb:ii=0
     .have kF:=zk.out.1 hb;have HV:=aa (pF (by rw[cZ];simp[f_,kF]));have It:((ii:Int)==0)=true:=by rw[beq_iff_eq];omega
      clear cZ hb eR kF;go_wp2_with fail;go_ret;exact⟨ia (by rw[HV.out]),J⟩
     .have kF:¬k=t+1:=fun h=>hb (zk.out.2 h);have HV:=aa (Kc (p:=p) (t:=t) (n:=k-t+1) (f:=cS (if false=true then fun i=>!f i else f) 47 false) (by rw[cZ];simp only[f_];rw[if_neg (by omega)]));have It:((ii:Int)==0)=false:=by rw[beq_eq_false_iff_ne];omega
      clear cZ hb eR kF;go_wp2_with fail;go_ret;exact⟨ia (by rw[HV.out];omega),J⟩
set_option maxRecDepth 10000 in set_option maxHeartbeats 1000000 in theorem aeo(p:ByteArray)(t:Nat)(_ht:t<p.size)(hz:p.size<=1000)(u:kT (p.extract t p.size)=false)(Ll:¬t+1<p.size)(w:ac):ap ae 152 #[ad p,I R t] w fun e w'=>e= .returned (I R (zl p t))/\w'=w:=by
 have hB:g' (p.extract t p.size)=1:=by unfold g';rw[u];rfl
 have ox:e4 (p.extract t p.size)=f_ false 1 (p.size-t) (db (p.size-t+1) (p.extract t p.size) 1 fun _=>false):=by unfold e4;rw[u,hB,size_extract]
 have G:=aa ox;clear ox hB u;have d0:decide ((t:Int)+1<(p.size:Int))=false:=by simp;omega
 .skip;go_enter func152,ntmps152;go_wp2_with fail;go_loop[5,6](fun i c=>∃(k:Nat)(f:Nat->Bool)(ii b6:Nat),t<=k/\k<=p.size/\i=I R k/\c=I R ii/\ii+t+1<=k/\(ii=0↔k=t+1)/\p.size-k<b6/\db b6 (p.extract t p.size) (k-t) f=db (p.size-t+1) (p.extract t p.size) 1 (fun _=>false))(fun i _=>p.size-(intOf i).toNat);case atStart=>exact⟨t+1,fun _=>false,0,p.size-t+1,by omega,by omega,by go_num,J,by omega,by simp,by omega,by rw[show t+1-t=1 by omega]⟩
  case round=>
   obtain⟨k,f,ii,b6,dY,gG,rfl,rfl,VF,zS,F0,cX⟩:=hrel;obtain⟨fu,rfl⟩:∃fu,b6=fu+1:=⟨b6-1,by omega⟩;have dL:=aa cX;have zk:=aa zS;clear cX zS;by_cases iE:k<p.size/\aqh p k≠93;.exfalso;omega
   .have bN:=Rg (fu:=fu) (f:=f) (by omega) dY iE;have cZ:e4 (p.extract t p.size)=f_ false 1 (p.size-t) (some (k-t,f)):=by rw[G.out,<-dL.out,bN]
    clear G dL bN;by_cases eR:k=p.size
    .have HV:=aa (pF (by rw[cZ];simp[f_,eR]));have fK:decide ((k:Int)<(p.size:Int))=false:=by simp;omega
     have yJ:((k:Int)==(p.size:Int))=true:=by rw[beq_iff_eq];omega
     clear cZ eR iE;go_wp2_with fail;go_ret;exact⟨ia (by rw[HV.out]),J⟩
    .have am:k<p.size:=by omega
     have nk:aqh p k=93:=JH fun h=>iE ⟨am,h⟩;have nh:=aqi p k am;have mK:(((aqh p k:Nat):Int)!=93)=false:=by rw[bne_eq_false_iff_eq];omega
     have fK:decide ((k:Int)<(p.size:Int))=true:=by simp;omega
     have yJ:((k:Int)==(p.size:Int))=false:=by rw[beq_eq_false_iff_ne];omega
     clear iE nk;by_cases hb:ii=0
     .have kF:=zk.out.1 hb;have HV:=aa (pF (by rw[cZ];simp[f_,kF]));have It:((ii:Int)==0)=true:=by rw[beq_iff_eq];omega
      clear cZ hb eR kF;go_wp2_with fail;go_ret;exact⟨ia (by rw[HV.out]),J⟩
     .have kF:¬k=t+1:=fun h=>hb (zk.out.2 h);have HV:=aa (Kc (p:=p) (t:=t) (n:=k-t+1) (f:=cS (if false=true then fun i=>!f i else f) 47 false) (by rw[cZ];simp only[f_];rw[if_neg (by omega)]));have It:((ii:Int)==0)=false:=by rw[beq_eq_false_iff_ne];omega
      clear cZ hb eR kF;go_wp2_with fail;go_ret;exact⟨ia (by rw[HV.out];omega),J⟩
theorem Uq(p:ByteArray)(t:Nat)(ht:t<p.size)(hz:p.size<=1000)(w:ac):ap ae 152 #[ad p,I R t] w fun e w'=>e= .returned (I R (zl p t))/\w'=w:=by
 have h:kT (p.extract t p.size)=(decide (1<p.size-t)&&aqh p (t+1)==33):=by unfold kT;rw[size_extract,qm p t 1 (by omega)]
 cases u:kT (p.extract t p.size)
 .by_cases am:t+1<p.size;.rw[u]at h;refine aj6 p t ht hz u am ?_ w;rw[beq_eq_false_iff_ne];intro Yh;rw[show aqh p (t+1)=33 by omega]at h;simp at h;omega
  .exact aeo p t ht hz u am w
 .rw[u]at h;have h':=h.symm;simp at h';exact agq p t ht hz u (by omega) (by rw[beq_iff_eq];omega) w
end Go.Proofs.YtefdakbahplnbaaGreatDoor.Gl
