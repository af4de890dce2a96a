/- How a ward's steps go on: calls end; what comes late changes nothing. No walk in it. -/
import Derived.Test.YtefdakbahplnbaaGreatDoorK16
import Derived.Test.YtefdakbahplnbaaGreatDoorK17
import Derived.Lib.Join
import Derived.Deep.DeepCutAuto
import Derived.Laws.OwnMore
import Derived.Laws.AppendOwnNone
open Go.Proofs.Tryz
open And renaming intro->bQ
open Array renaming getElem?_eq_some_iff->bM
open ByteArray renaming empty->fH
open Classical renaming byContradiction->pj
open Go renaming Addr->bl,Calls->ap,Exit->eK,Oper->bz,Operand->gr,Program->jf,TypeId->c6,Value->ag,World->ac,bodyPost_ret->ba,cell_of_row->aT,frozen_of_row->cy,heap_alloc_new->a7,run_loadVar_row->tT,setCell_eq_setRow->cJ,setRow_heap->aV,size_madeCells->FO,wpAny_done->dH,wpList_buildTo->tS,wpList_plain->vI,wpList_store_mid->sK,wpList_store_row->bK,wp_append_lies->xn,wp_load_row->C0,wp_region_any->mj
open Go.Act renaming put->ar
open Go.Ending renaming returned->aq
open Go.IntKind renaming i64->R,u32->aj,u64->ah
open Go.Lib renaming decDigits->aQ,hasSuffix->N1,trimSuffix->AN
open Go.Oper renaming wp->lk
open Go.Proofs.Tryz renaming prog->ae
open Go.Region renaming wanted->sF
open Go.Result renaming andThen->tQ,andThen_ok->tW
open Go.RowKit renaming Below->aD
open Go.RowKit.Below renaming heap_setCell->mV,refl->aS
open Go.Sem renaming run_bind->xl
open Go.Value renaming agg->aw,bool->aH,iface->b8,int->I,oneCell'->fG,ownBlock->AV,pointer->av,slice->ak,string->ad,tuple->az
open Go.World renaming drew->ll,news_of_block->lS,setCells->FP,size_alloc->bA
open Int renaming le_refl->JQ,toNat_natCast->d_,toNat_of_nonneg->acD
open List renaming append_nil->ry,drop_eq_nil_of_le->sD,filter_append->apb,getD_cons_succ->N3,getD_eq_getElem?_getD->cI,getElem?_cons_succ->c7,getElem?_cons_zero->cT,getElem?_eq_getElem->cq,getElem?_eq_none->C1,getElem?_eq_some_iff->pb,getElem?_toArray->cK,getElem_mem->vH,length_append->cl,length_cons->fh,length_nil->nI,length_singleton->gH,length_take->nJ,map_append->mU,mem_cons->kh,mem_of_getElem?->iy,nil_append->vz,not_mem_nil->xc,range->tX,take_zero->CZ
open Nat renaming add_assoc->oy,le_refl->aA,le_succ->N9,le_trans->bL,lt_of_lt_of_le->dk,lt_succ_of_lt->AW,sub_self->zd,zero_add->ru
open Option renaming getD_some->vE,none->ab,some->U
open Option.some renaming inj->dG,injEq->cm
open UInt8 renaming ofNat->bB
namespace Go.Proofs.YtefdakbahplnbaaGreatDoor
open Mm
def Lo(k:Nat)(t:TH):Nat:=match k with|1=>86|2=>3+41*((bx t.call.nr).length-t.cU)-t.dd.length|3=>3|4=>2|5=>1|_=>0
def tK(t:TH):Nat:=Lo t.phase t
theorem F2{t:TH}{k:Nat}(h:t.phase=k):tK t=Lo k t:=by unfold tK;rw[h]
theorem Pt{k:Nat}(h:k<=6):k=0\/k=1\/k=2\/k=3\/k=4\/k=5\/k=6:=by omega
structure EI(n:Nat)(s s':WS):Prop where
 LQ:∀k,k≠n->s'.T k=s.T k
 how:(s'.aX=s.aX/\(s'.T n).call=(s.T n).call/\1<=(s'.T n).phase/\(s'.T n).phase<=5)\/((∃e:EN,s'.aX=s.aX++[e]/\e.cg=n/\e.call=(s.T n).call)/\((s'.T n).phase=0\/(s'.T n).phase=6))
 apu:1<=tK (s.T n)->tK (s'.T n)+1<=tK (s.T n)
theorem aeZ(ph:Nat)(h:ph=0\/ph=6):tK (fJ ph)=0:=by rcases h with rfl|rfl<;>rfl
theorem Ag{n:Nat}{s:WS}{c:KL}{s0:WS}(aF:Nat)(aU:Int)(v:VS)(ho:∀k,k≠n->s.T k=s0.T k)(hl:s.aX=s0.aX)(H:(s.T n).call=c)(qP:(s0.T n).call=c):EI n s0 (ec n aF aU v s):=by
 have tn:(ec n aF aU v s).T n=fJ (if aF=3 then 6 else 0):=dN _ _ _;refine⟨fun k z=>by rw[show(ec n aF aU v s).T k=s.T k from ed _ _ z];exact ho k z, .inr ⟨⟨⟨aF,n,(s.T n).call,v,aU⟩,by rw[show(ec n aF aU v s).aX=s.aX++_ from J,hl],J,by show(s.T n).call=_;rw[H,qP]⟩,?_⟩,fun h=>?_⟩;.rw[tn];show(if aF=3 then 6 else 0)=0\/(if aF=3 then 6 else 0)=6;split<;>simp
 .rw[tn,aeZ _ (by split<;>simp)];omega
theorem Jb{n:Nat}{s:WS}{t:TH}(H:t.call=(s.T n).call)(q:1<=t.phase)(h5:t.phase<=5)(L:1<=tK (s.T n)->tK t+1<=tK (s.T n)):EI n s (s.put n t):=⟨fun k z=>BA _ _ z, .inl ⟨J,by rw[jp];exact H,by rw[jp];exact q,by rw[jp];exact h5⟩,fun h=>by rw[jp];exact L h⟩
theorem Yk{n:Nat}{s:WS}(a:bG)(next:Nat)(q:1<=next)(h5:next<=5)(L:tK {s.T n with phase:=next}+1<=tK (s.T n)):EI n s (oW n a next s):=by
 unfold oW;split;.exact Jb J q h5 fun _=>L
 .split;.exact Ag _ _ _ (fun _ _=>J) J J J
  .exact Ag _ _ _ (fun _ _=>J) J J J
theorem aaw{n:Nat}{s0:WS}(G':2<=tK (s0.T n)):∀(r:List Nat)(s:WS),(∀k,k≠n->s.T k=s0.T k)->s.aX=s0.aX->(s.T n).call=(s0.T n).call->EI n s0 (jm n r s)
 |[],s,ho,hl,H=>by unfold jm;refine⟨fun k z=>by rw[BA _ _ z];exact ho k z, .inl ⟨hl,by rw[jp];exact H,by rw[jp];show 1<=5;omega,by rw[jp];show 5<=5;omega⟩,fun _=>?_⟩;rw[jp];show 1+1<=_;omega
 |i::r,s,ho,hl,H=>by
  unfold jm;split;.exact Ag _ _ _ ho hl H J
  .refine aaw G' r _ (fun k z=>?_) hl ?_;.show aO s.T n _ k=_;rw[ed _ _ z];exact ho k z
   .show(aO s.T n _ n).call=_;rw[dN];exact H
theorem VM{n:Nat}{s:WS}:∀(r:List Nat)(v:Nat->VL),EI n s (kp n s r v)
 |[],v=>by unfold kp;exact Ag _ _ _ (fun _ _=>J) J J J
 |i::r,v=>by
  unfold kp;split;.exact VM r _
  .exact Ag _ _ _ (fun _ _=>J) J J J
theorem ae4{p:bj}(_hp:cM p=0){s:WS}(h:dT p s){n:Nat}(u:n<3)(q:1<=(s.T n).phase)(h5:(s.T n).phase<=5):EI n s (fb p n s):=by
 have ht:=h.cg n u;unfold fb;split
 .rename_i bv;have L:=F2 bv;simp only[Lo]at L;unfold uG;split;.rename_i hj;refine Jb J (by show 1<=2;omega) (by show 2<=5;omega) fun _=>?_;have:=Gz (s.T n).call.nr;rw[L];show 3+41*((bx (s.T n).call.nr).length-(s.T n).cU)-(s.T n).dd.length+1<=86;omega
  .refine Yk _ 5 (by omega) (by omega) ?_;rw[L];show 1+1<=86;omega
 .rename_i bv;have L:=F2 bv;simp only[Lo]at L;obtain⟨jr,Es⟩:=ht.GN bv;have hl:(s.T n).dd.length<=40:=by
   by_cases z:a1 (s.T n).call.nr (dP (s.T n))=3;.have:=Es.1 z;omega
   .exact(Es.2 z).1
  unfold so;split;.exact Ag _ _ _ (fun _ _=>J) J J J
  .unfold wA;simp only;split
   .split;.exact Ag _ _ _ (fun _ _=>J) J J J
    .by_cases eR:(s.T n).cU+1=(bx (s.T n).call.nr).length;.rw[if_pos eR];refine Jb J (by show 1<=3;omega) (by show 3<=5;omega) fun _=>?_;rw[L];show 3+1<=_;omega
     .rw[if_neg eR];refine Jb J (by show 1<=2;omega) (by show 2<=5;omega) fun _=>?_;rw[L];show 3+41*((bx (s.T n).call.nr).length-((s.T n).cU+1))-([]:W8).length+1<=_;simp only[nI];omega
   .refine Jb J (by show 1<=(s.T n).phase;omega) (by show(s.T n).phase<=5;omega) fun _=>?_;rw[L,F2 (k:=2) (by exact bv)];show 3+41*((bx (s.T n).call.nr).length-(s.T n).cU)-((s.T n).dd++[_]).length+1<=_;rw[cl,gH];omega
 .rename_i bv;refine Yk _ 4 (by omega) (by omega) ?_;rw[F2 bv];show 2+1<=3;omega
 .rename_i bv;exact aaw (by rw[F2 bv];show 2<=2;omega) _ s (fun _ _=>J) J J
 .unfold oX;split;.exact Ag _ _ _ (fun _ _=>J) J J J
  .exact VM _ _
 .rename_i bR a2 a3 a4 a5;exfalso;rcases(show(s.T n).phase=1\/(s.T n).phase=2\/(s.T n).phase=3\/(s.T n).phase=4\/(s.T n).phase=5 by omega)with h|h|h|h|h;.exact bR h
  .exact a2 h
  .exact a3 h
  .exact a4 h
  .exact a5 h
theorem aoR{p:bj}(hp:cM p=0){s:WS}(h:dT p s){n:Nat}(u:n<3):(fb p n s).aX.length<=s.aX.length+1:=by
 have h6:=(h.cg n u).ph;by_cases q:1<=(s.T n).phase/\(s.T n).phase<=5
 .rcases(ae4 hp h u q.1 q.2).how with⟨hl,_⟩|⟨⟨e,hl,_⟩,_⟩;.rw[hl];omega
  .rw[hl];simp
 .unfold fb;rcases show(s.T n).phase=0\/(s.T n).phase=6 by omega with h|h<;>rw[h]<;>exact N9 _
theorem anU{p:bj}(hp:cM p=0)(N:l3 p){s:WS}(h:dT p s)(n:Int):dT p (gA p n s).1:=by
 unfold gA;split
 .split;.exact h
  .split;.exact h
   .exact aiq hp N h (by omega)
 .exact h
theorem adq{p:bj}(hp:cM p=0){s:WS}(h:dT p s)(n:Int):(gA p n s).1.aX.length<=s.aX.length+1:=by
 unfold gA;split
 .split;.exact N9 _
  .split;.exact N9 _
   .exact aoR hp h (by omega)
 .exact N9 _
theorem XT{p:bj}{s:WS}(h:dT p s)(n:Int){c:KL}(H:hc c):dT p (iu n c s).1:=by
 unfold iu;split
 .rename_i u;split;.exact h
  .split
   .rename_i h0;have ht:=(h.cg n.toNat (by omega)).off (.inl h0);have F:(ui c).bV=(s.T n.toNat).bV:=by rw[ht];rfl
    exact h.put F (fun i hi=>by cases hi) (agi p H)
   .exact h
 .exact h
theorem KV(n:Int)(c:KL)(s:WS):(iu n c s).1.aX=s.aX:=by
 unfold iu;split
 .split;.rfl
  .split<;>rfl
 .rfl
theorem aar(n:Int)(b:Bool)(m:MS):pv m (jG n b m).1/\(nd m->nd (jG n b m).1):=by
 unfold jG;split;.exact⟨al_ m _ (by omega) b,fun h=>h⟩
 .exact⟨Jg m,fun h=>h⟩
theorem Vj(n:Int)(m:MS):pv m (jK n m).1/\(nd m->nd (jK n m).1):=by
 unfold jK;split;.exact⟨ac' m _ (by omega),fun hb=>Wx (m:=px (o2 m n.toNat false) n.toNat false) hb _ _⟩
 .exact⟨Jg m,fun h=>h⟩
theorem XP{a:Nat}(ha:a<18446744073709551616)(l:ByteArray){m:MS}(M:xt m):pv m (jw a l m).1/\(nd m->nd (jw a l m).1):=by
 unfold jw;split;.rename_i hg;exact⟨ai4 m a _ ha M.wt fun i hi=>hg i (by rw[Lib.size_eq];exact hi),fun hb=>Wx hb _ _⟩
 .exact⟨Jg m,fun h=>h⟩
structure DT where
 phase:Nat
 b':KL
 dI:Nat->Nat
 cn:Nat->W8
 a6:Nat
 aG:Nat->VL
 bP:List Nat
structure bC where
 T:Nat->DT
 mem:MS
 aX:List EN
def tw(ph:Nat):DT:=⟨ph,oC,fun _=>0,fun _=>[],0,fun _=>dE,[]⟩
def IZ(c:KL):DT:=⟨1,c,fk c,fun _=>[],0,fun _=>dE,[]⟩
def bC.put(d:bC)(n:Nat)(t:DT):bC:={d with T:=aO d.T n t}
def LZ:bC:=⟨fun _=>tw 0,wY,[]⟩
def ji(nr i:Nat):Nat:=((tX 4).filter fun j=>decide (i<=j)&&decide (2<=a1 nr j)).headD 4
def gf(n aF:Nat)(aU:Int)(v:VS)(d:bC):bC:=⟨aO d.T n (tw (if aF=3 then 6 else 0)),(d.T n).bP.foldl jk d.mem,d.aX++[⟨aF,n,(d.T n).b',v,aU⟩]⟩
def tE(n:Nat)(a:bG)(phase:Nat)(d:bC):bC:=if a.aF=1 then d.put n {d.T n with phase:=phase}else if a.aF=2 then gf n 2 a.aU cb d else if a.aF=3 then gf n 3 0 cb d else d
def ua(n:Nat)(t:DT)(d:bC):bC:=d.put n {t with a6:=ji t.b'.nr (t.a6+1),phase:=if ji t.b'.nr (t.a6+1)=4 then 3 else t.phase}
def At(n:Nat)(d:bC):bC:=let t:=d.T n;match ey d.mem ((t.dI t.a6+(t.cn t.a6).length)%18446744073709551616)with|ab=>gf n 2 14 cb d|U b=>if a1 t.b'.nr t.a6=2 then(if b=0 then ua n {t with aG:=aO t.aG t.a6 ⟨bs (t.cn t.a6),(t.aG t.a6).ip,(t.aG t.a6).aB⟩} d else if(t.cn t.a6).length=40 then gf n 2 36 cb d else d.put n {t with cn:=aO t.cn t.a6 (t.cn t.a6++[bB b])})else if(t.cn t.a6++[bB b]).length<16 then d.put n {t with cn:=aO t.cn t.a6 (t.cn t.a6++[bB b])}else match gS (bs (t.cn t.a6++[bB b]))with|ab=>gf n 2 22 cb d|U x=>ua n {t with cn:=aO t.cn t.a6 (t.cn t.a6++[bB b]),aG:=aO t.aG t.a6 ⟨(t.aG t.a6).bf,x.1,x.2⟩} d
def n8(n:Nat):List Nat->bC->bC|[],d=>d.put n {d.T n with phase:=5}|i::r,d=>match kW d.mem with|ab=>gf n 2 12 cb d|U B=>n8 n r ⟨aO d.T n {d.T n with dI:=aO (d.T n).dI i (B*64),bP:=(d.T n).bP++[B*64]},jI d.mem B (gU (a1 (d.T n).b'.nr i) ((d.T n).aG i)),d.aX⟩
def Bj(n:Nat)(d:bC):List Nat->(Nat->VL)->bC|[],v=>gf n 1 0 (eY v) d|i::r,v=>match jU d.mem (a1 (d.T n).b'.nr i) ((d.T n).dI i)with| .inl x=>Bj n d r (aO v i x)| .inr e=>gf n 2 e cb d
def xE(n:Nat)(d:bC):bC:=if 8<(d.T n).b'.nr then gf n 2 38 cb d else Bj n d (bx (d.T n).b'.nr) fun _=>dE
def BY(p:bj)(n:Nat)(d:bC):bC:=if(eA p (d.T n).b').1.aF=4 then d.put n {d.T n with phase:=2,a6:=ji (d.T n).b'.nr 0}else tE n (eA p (d.T n).b').1 5 d
def iR(p:bj)(n:Nat)(d:bC):bC:=match(d.T n).phase with|1=>BY p n d|2=>At n d|3=>tE n (ir p (d.T n).b' (eY (d.T n).aG)) 4 d|4=>n8 n (bx (d.T n).b'.nr) d|5=>xE n d|_=>d
def vb(t:TH):List Nat:=((tX 4).filter fun i=>t.bV i).map t.args
structure AE(t:TH)(d:DT):Prop where
 phase:d.phase=t.phase
 call:d.b'=t.call
 dI:∀i,i<4->d.dI i=t.args i
 aG:d.aG=t.aG
 bP:d.bP=vb t
 a6:t.phase=2->d.a6=dP t/\d.cn (dP t)=t.dd/\∀j,t.cU<j->d.cn ((bx t.call.nr).getD j 4)=[]
 cn:t.phase=1->∀i,d.cn i=[]
structure ie(s:WS)(d:bC):Prop where
 cg:∀n,n<3->AE (s.T n) (d.T n)
 mem:d.mem=s.mem
 aX:d.aX=s.aX
theorem abZ(ph:Nat)(h:ph=0\/ph=6):AE (fJ ph) (tw ph):=⟨J,J,fun _ _=>J,J,by show[]=vb _;unfold vb fJ;simp,fun h2=>by have:ph=2:=h2;omega,fun q=>by have:ph=1:=q;omega⟩
theorem agl(c:KL):AE (ui c) (IZ c):=⟨J,J,fun _ _=>J,J,by show[]=vb _;unfold vb ui;simp,fun h2=>by have:1=2:=h2;omega,fun _ _=>J⟩
theorem agQ:ie kJ LZ:=⟨fun _ _=>abZ 0 (.inl J),J,J⟩
theorem ie.put{s:WS}{d:bC}(h:ie s d)(n:Nat){t:TH}{ay:DT}(ht:AE t ay):ie (s.put n t) (d.put n ay):=by
 refine⟨fun k z=>?_,h.mem,h.aX⟩;show AE (aO s.T n t k) (aO d.T n ay k);by_cases c8:k=n;.subst c8;rw[dN,dN];exact ht
 .rw[ed _ _ c8,ed _ _ c8];exact h.cg k z
theorem abo(t:TH)(m:MS):∀i,(((tX i).filter fun j=>t.bV j).map t.args).foldl jk m=k6 t m i
 |0=>J
 |i+1=>by
  rw[List.range_succ,apb,mU,List.foldl_append,abo t m i];show _=if t.bV i=true then jk (k6 t m i) (t.args i)else k6 t m i;cases F:t.bV i;.simp[F]
  .simp[F]
theorem xX{s:WS}{d:bC}(h:ie s d){n:Nat}(u:n<3)(aF:Nat)(aU:Int)(v:VS):ie (ec n aF aU v s) (gf n aF aU v d):=by
 have ht:=h.cg n u;refine⟨fun k z=>?_,?_,?_⟩
 .show AE (aO s.T n _ k) (aO d.T n _ k);by_cases c8:k=n;.subst c8;rw[dN,dN];exact abZ _ (by split<;>simp)
  .rw[ed _ _ c8,ed _ _ c8];exact h.cg k z
 .show(d.T n).bP.foldl jk d.mem=k6 (s.T n) s.mem 4;rw[ht.bP,h.mem];exact abo _ _ 4
 .show d.aX++_=s.aX++_;rw[h.aX,ht.call]
theorem Yn{s:WS}{d:bC}(h:ie s d){n:Nat}(u:n<3){a:bG}(ha:dl a=0)(next:Nat)(q:next≠1)(h2:next≠2):ie (oW n a next s) (tE n a next d):=by
 have ht:=h.cg n u;unfold oW tE;rcases vu ha with rfl|rfl|⟨k,_,_,rfl⟩;.rw[if_pos J,if_pos J];exact h.put n ⟨J,ht.call,ht.dI,ht.aG,ht.bP,fun e=>absurd e h2,fun e=>absurd e q⟩
 .rw[if_neg (by decide),if_neg (by decide),if_neg (by decide),if_neg (by decide),if_pos J];exact xX h u _ _ _
 .rw[if_neg (by show¬(2:Int)=1;omega),if_pos J,if_neg (by show¬(2:Int)=1;omega),if_pos J];exact xX h u _ _ _
theorem agH{nr:Nat}(h:nr<=8)(h0:0<(bx nr).length):ji nr 0=(bx nr).getD 0 0:=by revert h0;rcases sf h with rfl|rfl|rfl|rfl|rfl|rfl|rfl|rfl|rfl<;>decide
theorem afS{nr i:Nat}(h:nr<=8)(hi:i<(bx nr).length):ji nr ((bx nr).getD i 0+1)=(bx nr).getD (i+1) 4:=by
 have h2:=Gz nr;rcases show i=0\/i=1 by omega with rfl|rfl;.revert hi;clear h2;rcases sf h with rfl|rfl|rfl|rfl|rfl|rfl|rfl|rfl|rfl<;>decide
 .revert hi;clear h2;rcases sf h with rfl|rfl|rfl|rfl|rfl|rfl|rfl|rfl|rfl<;>decide
theorem aab{nr i j:Nat}(hi:i<(bx nr).length)(vL:i<j):(bx nr).getD j 4≠(bx nr).getD i 0:=by
 have hm:(bx nr).getD i 0∈bx nr:=by rw[cI,cq hi];exact vH hi
 have am:=(sj hm).2.1;by_cases hj:j<(bx nr).length;.intro e;rw[cI,cI,cq hi,cq hj]at e;have:=(List.getElem_inj (Lt nr)).1 (show(bx nr)[j]=(bx nr)[i]from e);omega
 .rw[cI,C1 (by omega)];show 4≠_;omega
theorem amV{p:bj}(hp:cM p=0){s:WS}{d:bC}(hi:dT p s)(h:ie s d){n:Nat}(u:n<3)(bv:(s.T n).phase=1):ie (uG p n s) (BY p n d):=by
 have ht:=h.cg n u;have he:=(hi.cg n u).SK bv;unfold uG BY;rw[ht.call];by_cases h4:(eA p (s.T n).call).1.aF=4
 .rw[if_pos h4,if_pos h4];obtain⟨h8,h0⟩:=Tw hp h4;refine h.put n ⟨J,ht.call,ht.dI,ht.aG,ht.bP,fun _=>⟨?_,?_,fun j _=>ht.cn bv _⟩,fun e=>by have:2=1:=e;omega⟩;.show ji _ 0=(bx (s.T n).call.nr).getD (s.T n).cU 0;rw[show(s.T n).cU=0 by rw[he];rfl];exact agH h8 h0
  .show(d.T n).cn _=(s.T n).dd;rw[ht.cn bv,he];rfl
 .rw[if_neg h4,if_neg h4];exact Yn h u ((Iv hp _).resolve_left h4) 5 (by omega) (by omega)
theorem abM{s:WS}{d:bC}(h:ie s d){n:Nat}(u:n<3)(bv:(s.T n).phase=2)(h8:(s.T n).call.nr<=8)(jr:(s.T n).cU<(bx (s.T n).call.nr).length)(v:VL)(ay:DT)(hu:ay.phase=2/\ay.b'=(s.T n).call/\ay.dI=(d.T n).dI/\ay.aG=aO (s.T n).aG (dP (s.T n)) v/\ay.bP=(d.T n).bP/\ay.a6=dP (s.T n))(hx:∀i,i≠dP (s.T n)->ay.cn i=(d.T n).cn i):ie (s.put n {s.T n with aG:=aO (s.T n).aG (dP (s.T n)) v,dd:=[],cU:=(s.T n).cU+1,phase:=if(s.T n).cU+1=(bx (s.T n).call.nr).length then 3 else 2}) (ua n ay d):=by
 have ht:=h.cg n u;obtain⟨u1,An,u3,u4,aj8,u6⟩:=hu;have XK:ji ay.b'.nr (ay.a6+1)=(bx (s.T n).call.nr).getD ((s.T n).cU+1) 4:=by rw[An,u6];exact afS h8 jr
 have am0:(if ji ay.b'.nr (ay.a6+1)=4 then 3 else ay.phase)=if(s.T n).cU+1=(bx (s.T n).call.nr).length then 3 else 2:=by
  rw[XK,u1];by_cases hl:(s.T n).cU+1=(bx (s.T n).call.nr).length;.rw[if_pos hl,if_pos (by rw[cI,C1 (by omega)];rfl)]
  .rw[if_neg hl,if_neg];have am:(s.T n).cU+1<(bx (s.T n).call.nr).length:=by omega
   rw[cI,cq am];have:=(sj (vH am)).2.1;show(bx (s.T n).call.nr)[(s.T n).cU+1]≠4;omega
 have zw:∀j,(s.T n).cU<j->ay.cn ((bx (s.T n).call.nr).getD j 4)=[]:=fun j hj=>by rw[hx _ (aab jr hj)];exact(ht.a6 bv).2.2 j hj
 refine h.put n ⟨am0,An,fun i hi=>by show ay.dI i=_;rw[u3];exact ht.dI i hi,u4,by show ay.bP=_;rw[aj8];exact ht.bP,fun e=>?_,fun e=>?_⟩
 .have hl:¬(s.T n).cU+1=(bx (s.T n).call.nr).length:=fun hl=>by have:(if(s.T n).cU+1=(bx (s.T n).call.nr).length then 3 else 2)=2:=e;rw[if_pos hl]at this;omega
  have EF:(bx (s.T n).call.nr).getD ((s.T n).cU+1) 4=(bx (s.T n).call.nr).getD ((s.T n).cU+1) 0:=by
   have am:(s.T n).cU+1<(bx (s.T n).call.nr).length:=by omega
   rw[cI,cI,cq am];rfl
  refine⟨XK.trans EF,?_,fun j hj=>zw j (by have:(s.T n).cU+1<j:=hj;omega)⟩;show ay.cn ((bx (s.T n).call.nr).getD ((s.T n).cU+1) 0)=[];rw[<-EF];exact zw _ (by omega)
 .have:(if(s.T n).cU+1=(bx (s.T n).call.nr).length then 3 else 2)=1:=e;split at this<;>omega
theorem Oo{n:Nat}{l:W8}{s:WS}(h:nc (a1 (s.T n).call.nr (dP (s.T n))) l=true):wA n l s=match mG (a1 (s.T n).call.nr (dP (s.T n))) l with|ab=>ec n 2 (ED (a1 (s.T n).call.nr (dP (s.T n))):Nat) cb s|U v=>s.put n {s.T n with aG:=aO (s.T n).aG (dP (s.T n)) v,dd:=[],cU:=(s.T n).cU+1,phase:=if(s.T n).cU+1=(bx (s.T n).call.nr).length then 3 else 2}:=by unfold wA;simp only;rw[if_pos h];cases mG (a1 (s.T n).call.nr (dP (s.T n))) l<;>rfl
theorem aaQ{n:Nat}{l:W8}{s:WS}(h:nc (a1 (s.T n).call.nr (dP (s.T n))) l=false):wA n l s=s.put n {s.T n with dd:=l}:=by unfold wA;simp only;rw[if_neg (by rw[h];exact Bool.false_ne_true)]
theorem aa0{s:WS}{d:bC}(h:ie s d){n:Nat}(u:n<3)(bv:(s.T n).phase=2)(jr:(s.T n).cU<(bx (s.T n).call.nr).length)(l:W8):ie (s.put n {s.T n with dd:=l}) (d.put n {d.T n with b':=(s.T n).call,a6:=dP (s.T n),cn:=aO (d.T n).cn (dP (s.T n)) l}):=by have ht:=h.cg n u;exact h.put n ⟨ht.phase,J,ht.dI,ht.aG,ht.bP,fun _=>⟨J,dN _ _ _,fun j hj=>(ed _ _ (aab jr hj)).trans ((ht.a6 bv).2.2 j hj)⟩,fun e=>by have:(s.T n).phase=1:=e;omega⟩
theorem ahd{p:bj}{s:WS}{d:bC}(hi:dT p s)(h:ie s d){n:Nat}(u:n<3)(bv:(s.T n).phase=2):ie (so n s) (At n d):=by
 have ht:=h.cg n u;have hT:=hi.cg n u;have h8:=hT.zh (by omega) (by omega);obtain⟨jr,hf⟩:=hT.GN bv;have ww:=hT.oH (by omega) (by omega);obtain⟨AB,AK,_⟩:=ht.a6 bv;have hm:dP (s.T n)∈bx (s.T n).call.nr:=by unfold dP;rw[cI,cq jr];exact vH jr
 obtain⟨_,mP,nn⟩:=sj hm;have Y7:dP (s.T n)∉(bx (s.T n).call.nr).take (s.T n).cU:=fun dV=>by
  obtain⟨j,hj,hje⟩:=List.getElem_of_mem dV;rw[nJ]at hj;rw[List.getElem_take]at hje;have h2:(bx (s.T n).call.nr)[(s.T n).cU]=dP (s.T n):=by unfold dP;rw[cI,cq jr];rfl
  have:=(List.getElem_inj (Lt _)).1 (hje.trans h2.symm);omega
 have hz:=(ww (dP (s.T n))).2 Y7;unfold so At;simp only;rw[AB,AK,h.mem,ht.dI _ mP,ht.call];cases dm:ey s.mem (((s.T n).args (dP (s.T n))+(s.T n).dd.length)%18446744073709551616)with
  |none=>exact xX h u _ _ _
  |some b=>
   simp only;have hb:b<256:=by
    unfold ey at dm;split at dm;.rw[<-dG dm];exact hi.mem.uX.bytes _
    .cases dm
   have l9:bB b=0↔b=0:=by
    constructor;.intro e;have:=congrArg UInt8.toNat e;rw[UInt8.toNat_ofNat',Nat.mod_eq_of_lt (show b<2^8 from hb)]at this;exact this
    .rintro rfl;rfl
   have sS:((s.T n).dd++[bB b]).getLast?=U (bB b):=by simp
   rcases nn with z|z
   .have cY:=(hf.2 (by omega)).1;rw[if_pos z];by_cases qn:b=0
    .rw[if_pos qn];have hw:nc (a1 (s.T n).call.nr (dP (s.T n))) ((s.T n).dd++[bB b])=true:=by unfold nc;rw[if_neg (by omega),sS,l9.2 qn];rfl
     rw[Oo hw];have hv:mG (a1 (s.T n).call.nr (dP (s.T n))) ((s.T n).dd++[bB b])=U ⟨bs (s.T n).dd,0,0⟩:=by unfold mG;rw[if_neg (by omega),sS,l9.2 qn,if_pos J,List.dropLast_concat]
     rw[hv];simp only;refine abM h u bv h8 jr _ _ ⟨ht.phase.trans bv,J,J,?_,J,J⟩ (fun i _=>J);show aO (d.T n).aG _ _=_;rw[ht.aG,hz];rfl
    .rw[if_neg qn];have bo:¬(bB b=0):=fun e=>qn (l9.1 e);by_cases nB:(s.T n).dd.length=40
     .rw[if_pos nB];have hw:nc (a1 (s.T n).call.nr (dP (s.T n))) ((s.T n).dd++[bB b])=true:=by unfold nc;rw[if_neg (by omega),cl,nB];simp
      rw[Oo hw];have hv:mG (a1 (s.T n).call.nr (dP (s.T n))) ((s.T n).dd++[bB b])=ab:=by unfold mG;rw[if_neg (by omega),sS,if_neg (fun e=>bo (dG e))]
      rw[hv,z];exact xX h u _ _ _
     .rw[if_neg nB];have hw:nc (a1 (s.T n).call.nr (dP (s.T n))) ((s.T n).dd++[bB b])=false:=by unfold nc;rw[if_neg (by omega),sS,cl,gH,decide_eq_false (by omega),Bool.or_false];simpa using bo
      rw[aaQ hw];exact aa0 h u bv jr _
   .have cY:=hf.1 z;rw[if_neg (by omega)];by_cases pO:((s.T n).dd++[bB b]).length<16
    .rw[if_pos pO];have hw:nc (a1 (s.T n).call.nr (dP (s.T n))) ((s.T n).dd++[bB b])=false:=by unfold nc;rw[if_pos z];simp only[beq_eq_false_iff_ne];omega
     rw[aaQ hw];exact aa0 h u bv jr _
    .rw[if_neg pO];have hw:nc (a1 (s.T n).call.nr (dP (s.T n))) ((s.T n).dd++[bB b])=true:=by unfold nc;rw[if_pos z];simp only[beq_iff_eq];rw[cl,gH]at pO⊢;omega
     rw[Oo hw];have hv:mG (a1 (s.T n).call.nr (dP (s.T n))) ((s.T n).dd++[bB b])=(gS (bs ((s.T n).dd++[bB b]))).map fun x=>⟨fH,x.1,x.2⟩:=by unfold mG;rw[if_pos z]
     rw[hv];cases L:gS (bs ((s.T n).dd++[bB b]))with
      |none=>simp only[Option.map_none];rw[z];exact xX h u _ _ _
      |some x=>simp only[Option.map_some];refine abM h u bv h8 jr _ _ ⟨ht.phase.trans bv,J,J,?_,J,J⟩ (fun i bo=>ed _ _ bo);show aO (d.T n).aG _ _=_;rw[ht.aG,hz];rfl
theorem adM{t:TH}{i x:Nat}(hi:i<4)(M:∀j,i<=j->t.bV j=false):vb {t with args:=aO t.args i x,bV:=aO t.bV i true}=vb t++[x]:=by
 have r4:tX 4=[0,1,2,3]:=J;unfold vb;simp only[r4];rcases show i=0\/i=1\/i=2\/i=3 by omega with rfl|rfl|rfl|rfl;.simp[aO,M 0 (by omega),M 1 (by omega),M 2 (by omega),M 3 (by omega)]
 .cases h0:t.bV 0<;>simp[aO,h0,M 1 (by omega),M 2 (by omega),M 3 (by omega)]
 .cases h0:t.bV 0<;>cases q:t.bV 1<;>simp[aO,h0,q,M 2 (by omega),M 3 (by omega)]
 .cases h0:t.bV 0<;>cases q:t.bV 1<;>cases h2:t.bV 2<;>simp[aO,h0,q,h2,M 3 (by omega)]
theorem al6(nr:Nat):(bx nr).Pairwise (·<·):=by
 unfold bx;split;.exact List.Pairwise.filter _ List.pairwise_lt_range
 .exact List.Pairwise.nil
theorem abn{n:Nat}(u:n<3):∀(r:List Nat){s:WS}{d:bC},ie s d->r.Pairwise (·<·)->(∀i∈r,i<4/\∀j,i<=j->(s.T n).bV j=false)->ie (jm n r s) (n8 n r d)
 |[],s,d,h,_,_=>by have ht:=h.cg n u;unfold jm n8;exact h.put n ⟨J,ht.call,ht.dI,ht.aG,ht.bP,fun e=>by have:5=2:=e;omega,fun e=>by have:5=1:=e;omega⟩
 |i::r,s,d,h,hp,F=>by
  have ht:=h.cg n u;obtain⟨Ce,x'⟩:=F i (by simp);have rg:=List.pairwise_cons.1 hp;unfold jm n8;rw[h.mem];cases N:kW s.mem with
   |none=>exact xX h u _ _ _
   |some B=>
    simp only;refine abn u r ⟨fun k z=>?_,by show jI _ B _=jI _ B _;rw[ht.call,ht.aG],h.aX⟩ rg.2 (fun i' e7=>⟨(F i' (by simp[e7])).1,fun j hj=>?_⟩)
    .show AE (aO s.T n _ k) (aO d.T n _ k);by_cases c8:k=n
     .subst c8;rw[dN,dN];refine⟨ht.phase,ht.call,fun j hj=>?_,ht.aG,?_,fun e=>?_,fun e=>?_⟩
      .show aO _ _ _ j=aO _ _ _ j;by_cases jz:j=i;.subst jz;rw[dN,dN]
       .rw[ed _ _ jz,ed _ _ jz];exact ht.dI j hj
      .show(d.T k).bP++[B*64]=_;rw[adM Ce x',ht.bP]
      .exact ht.a6 e
      .exact ht.cn e
     .rw[ed _ _ c8,ed _ _ c8];exact h.cg k z
    .show(aO s.T n _ n).bV j=false;rw[dN];show aO (s.T n).bV i true j=false;have:=rg.1 i' e7;rw[ed _ _ (by omega)];exact x' j (by omega)
theorem abC{n:Nat}(u:n<3){s:WS}{d:bC}(h:ie s d):∀(r:List Nat)(v:Nat->VL),(∀i∈r,i<4)->ie (kp n s r v) (Bj n d r v)
 |[],v,_=>xX h u _ _ _
 |i::r,v,L=>by
  have ht:=h.cg n u;unfold kp Bj;rw[h.mem,ht.call,ht.dI i (L i (by simp))];cases jU s.mem (a1 (s.T n).call.nr i) ((s.T n).args i)with
   |inl x=>exact abC u h r _ fun j hj=>L j (by simp[hj])
   |inr e=>exact xX h u _ _ _
theorem aoO{p:bj}(hp:cM p=0){s:WS}{d:bC}(hi:dT p s)(h:ie s d){n:Nat}(u:n<3):ie (fb p n s) (iR p n d):=by
 have ht:=h.cg n u;have hT:=hi.cg n u;have rg:=ht.phase;rcases Pt hT.ph with bv|bv|bv|bv|bv|bv|bv;.rw[show fb p n s=s by unfold fb;simp only[bv],show iR p n d=d by unfold iR;simp only[rg,bv]];exact h
 .rw[show fb p n s=uG p n s by unfold fb;simp only[bv],show iR p n d=BY p n d by unfold iR;simp only[rg,bv]];exact amV hp hi h u bv
 .rw[show fb p n s=so n s by unfold fb;simp only[bv],show iR p n d=At n d by unfold iR;simp only[rg,bv]];exact ahd hi h u bv
 .rw[show fb p n s=BK p n s by unfold fb;simp only[bv],show iR p n d=tE n (ir p (d.T n).b' (eY (d.T n).aG)) 4 d by unfold iR;simp only[rg,bv]];unfold BK;rw[ht.call,ht.aG];exact Yn h u (KY hp _ _) 4 (by omega) (by omega)
 .rw[show fb p n s=z8 n s by unfold fb;simp only[bv],show iR p n d=n8 n (bx (d.T n).b'.nr) d by unfold iR;simp only[rg,bv]];unfold z8;rw[ht.call];exact abn u _ h (al6 _) fun i e7=>⟨(sj e7).2.1,fun j _=>(hT.plain (by omega)).1 j⟩
 .rw[show fb p n s=oX n s by unfold fb;simp only[bv],show iR p n d=xE n d by unfold iR;simp only[rg,bv]];unfold oX xE;rw[ht.call];by_cases h8:8<(s.T n).call.nr;.rw[if_pos h8,if_pos h8];exact xX h u _ _ _
  .rw[if_neg h8,if_neg h8];exact abC u h _ _ fun i e7=>(sj e7).2.1
 .rw[show fb p n s=s by unfold fb;simp only[bv],show iR p n d=d by unfold iR;simp only[rg,bv]];exact h
def kj(l:List Nat):KL:=⟨3221225534,min (l.getD 0 0) 4294967295,l.getD 1 0,l.getD 2 0,l.getD 3 0,l.getD 4 0⟩
def nH(f:Nat):W8:=[101,114,114,111,114,32]++aQ f
def iZ(f:Nat):W8:=if f=0 then[111,107]else nH f
def pq(x:bG×Nat):W8:=if x.1.aF=4 then[116,114,97,99,101,32]++aQ x.2 else cr 32 (e3 x.1)
def oJ(p:bj)(n:Nat):Nat->Nat->WS->WS×W8|0,k,s=>(s,aQ k)|t+1,k,s=>if(gA p n s).2.2≠0 then((gA p n s).1,nH (gA p n s).2.2)else if(gA p n s).2.1=false then((gA p n s).1,aQ k)else if mr n (gA p n s).1=6 then((gA p n s).1,aQ (k+1))else oJ p n t (k+1) (gA p n s).1
def uT(c:KL)(v:VS)(i:Nat):W8:=if a1 c.nr i=1 then 32::aQ (fk c i)else if a1 c.nr i=2 then[32,34]++iH (v.eu i).bf.data.toList++[34]else if a1 c.nr i=3 then[32]++aQ (v.eu i).ip++[58]++aQ (v.eu i).aB.toNat else[]
def gY(c:KL)(v:VS):Nat->W8|0=>[]|i+1=>gY c v i++uT c v i
def gV(e:EN):W8:=aQ e.cg++[32]++aQ e.call.nr++[32]++(if e.aF=2 then[114,101,102,117,115,101,100,32]++aQ e.aU.toNat else if e.aF=3 then[107,105,108,108,101,100]else[100,111,110,101]++gY e.call e.aG 4)
def yA(l:List EN):W8:=if l.length=0 then[45]else Lib.join (l.map gV) [44,32]
noncomputable def Ld(p:bj)(s:WS)(c:W8)(n:List Nat)(b:W8):WS×W8:=if c=DR then({s with mem:=(jG (bD (n.getD 0 0)) (decide (n.getD 1 0≠0)) s.mem).1},iZ (jG (bD (n.getD 0 0)) (decide (n.getD 1 0≠0)) s.mem).2)else if c=Em then({s with mem:=(jK (bD (n.getD 0 0)) s.mem).1},iZ (jK (bD (n.getD 0 0)) s.mem).2)else if c=kf then({s with mem:=(jw (n.getD 0 0) (bs b) s.mem).1},iZ (jw (n.getD 0 0) (bs b) s.mem).2)else if c=C6 then((iu (bD (n.getD 0 0)) (kj n.tail) s).1,iZ (iu (bD (n.getD 0 0)) (kj n.tail) s).2)else if c=DE then(s,pq (eA p (kj n)))else if c=ES then oJ p (bD (n.getD 0 0)) (min (bD (n.getD 1 0)) 1000) 0 s else if c=Fo then(s,aQ (mr (bD (n.getD 0 0)) s))else if c=E3 then(s,aQ (na s.mem 4))else(s,yA s.aX)
noncomputable def hO(p:bj)(s:WS)(bp:W8):WS×W8:=match iN bp with|ab=>(s,nH 4)|U c=>Ld p s c.1 c.2.1 c.2.2
noncomputable def iY(p:bj)(s:WS):List W8->WS×List W8|[]=>(s,[])|l::r=>((iY p (hO p s l).1 r).1,(hO p s l).2::(iY p (hO p s l).1 r).2)
theorem abw(p:bj)(x:W8):∀(l:List W8)(s:WS),iY p s (l++[x])=((hO p (iY p s l).1 x).1,(iY p s l).2++[(hO p (iY p s l).1 x).2])|[],s=>J|al::r,s=>by rw[List.cons_append];show((iY p (hO p s al).1 (r++[x])).1,(hO p s al).2::(iY p (hO p s al).1 (r++[x])).2)=_;rw[abw p x r];rfl
theorem KG(p:bj):∀(l:List W8)(s:WS),(iY p s l).2.length=l.length|[],_=>J|al::r,s=>by show _+1=_+1;rw[KG p r]
theorem YB(p:bj)(s:WS)(l:List W8)(i:Nat)(h:i<l.length):iY p s (l.take (i+1))=((hO p (iY p s (l.take i)).1 (l.getD i [])).1,(iY p s (l.take i)).2++[(hO p (iY p s (l.take i)).1 (l.getD i [])).2]):=by rw[List.take_add_one,cq h,Option.toList_some,abw,cI,cq h,vE]
theorem L3{l:List Nat}(h:∀i,l.getD i 0<18446744073709551616):hc (kj l):=⟨by show 3221225534<_;omega,by show min _ _<_;omega,h 1,h 2,h 3,h 4⟩
def iD(s:WS):Prop:=∀e∈s.aX,e.aF=1->e.call.nr<=8/\∀i,0<=(e.aG.eu i).aB/\(e.aG.eu i).aB<=65535
theorem iD.yQ{s t:WS}(h:iD s)(e:t.aX=s.aX):iD t:=fun x hx=>h x (e▸hx)
theorem iD.M3{s:WS}(h:iD s)(n aF:Nat)(aU:Int)(v:VS)(z:aF=1->(s.T n).call.nr<=8/\∀i,0<=(v.eu i).aB/\(v.eu i).aB<=65535):iD (ec n aF aU v s):=fun e he=>by
 rcases List.mem_append.1 (show e∈s.aX++[_]from he)with q|q;.exact h e q
 .obtain rfl:=List.mem_singleton.1 q;exact z
theorem iD.mQ{s:WS}(h:iD s)(n:Nat){aF:Nat}(z:aF≠1)(aU:Int)(v:VS):iD (ec n aF aU v s):=h.M3 n aF aU v fun e=>absurd e z
theorem iD.Yr{s:WS}(h:iD s)(n:Nat)(a:bG)(next:Nat):iD (oW n a next s):=by
 unfold oW;split;.exact h.yQ J
 .split;.exact h.mQ n (by decide) _ _
  .exact h.mQ n (by decide) _ _
theorem iD.YI(n:Nat):∀(r:List Nat){s:WS},iD s->iD (jm n r s)
 |[],s,h=>h.yQ J
 |i::r,s,h=>by
  unfold jm;split;.exact h.mQ n (by decide) _ _
  .exact iD.YI n r (h.yQ J)
theorem aeg{m:MS}{k a:Nat}{x:VL}(h:jU m k a= .inl x):0<=x.aB/\x.aB<=65535:=by
 unfold jU at h;repeat' split at h
 all_goals first|cases h|skip
 .exact⟨JQ _,by show(0:Int)<=65535;decide⟩
 .rename_i al hy;have:=(Pc hy).2.1;exact⟨by show(0:Int)<=(al.2:Nat);omega,by show((al.2:Nat):Int)<=_;omega⟩
theorem adU(v:Nat->VL)(i:Nat):(eY v).eu i=v (min i 3):=by match i with|0=>rfl|1=>rfl|2=>rfl|i+3=>rw[show min (i+3) 3=3 by omega];rfl
theorem iD.sr{s:WS}(h:iD s)(n:Nat)(h8:(s.T n).call.nr<=8):∀(r:List Nat)(v:Nat->VL),(∀i,0<=(v i).aB/\(v i).aB<=65535)->iD (kp n s r v)
 |[],v,hv=>h.M3 n 1 0 _ fun _=>⟨h8,fun i=>by rw[adU];exact hv _⟩
 |i::r,v,hv=>by
  unfold kp;split
  .rename_i x hx;refine iD.sr h n h8 r _ fun j=>?_;by_cases hj:j=i;.rw[hj,dN];exact aeg hx
   .rw[ed _ _ hj];exact hv j
  .exact h.mQ n (by decide) _ _
theorem iD.step{s:WS}(h:iD s)(p:bj)(n:Int):iD (gA p n s).1:=by
 unfold gA;split
 .split;.exact h
  .split;.exact h
   .show iD (fb p n.toNat s);unfold fb;split
    .unfold uG;split;.exact h.yQ J
     .exact h.Yr _ _ _
    .unfold so;split;.exact h.mQ _ (by decide) _ _
     .unfold wA;simp only;split
      .split;.exact h.mQ _ (by decide) _ _
       .exact h.yQ J
      .exact h.yQ J
    .exact h.Yr _ _ _
    .exact iD.YI _ _ h
    .unfold oX;split;.exact h.mQ _ (by decide) _ _
     .exact h.sr _ (by omega) _ _ fun _=>⟨JQ _,by decide⟩
    .exact h
 .exact h
structure oY(p:bj)(K:Nat)(s:WS):Prop where
 lO:dT p s
 aX:s.aX.length<=K
 ok:iD s
theorem oY.start(p:bj):oY p 0 kJ:=⟨Xb p,aA _,fun e he=>by cases he⟩
theorem oY.cx{p:bj}{K K':Nat}{s:WS}(h:oY p K s)(z:K<=K'):oY p K' s:=⟨h.lO,bL h.aX z,h.ok⟩
theorem oY.step{p:bj}(hp:cM p=0)(N:l3 p){K:Nat}{s:WS}(h:oY p K s)(n:Int):oY p (K+1) (gA p n s).1:=⟨anU hp N h.lO n,bL (adq hp h.lO n) (Nat.succ_le_succ h.aX),h.ok.step p n⟩
theorem oY.mem{p:bj}{K:Nat}{s:WS}(h:oY p K s){m:MS}(hh:pv s.mem m/\(nd s.mem->nd m)):oY p K {s with mem:=m}:=⟨acV h.lO hh.1 hh.2,h.aX,h.ok.yQ J⟩
theorem af_{bp:W8}{c:W8×List Nat×W8}(h:iN bp=U c):∃k,lP c.1=U k/\c.2.1.length=k/\(∀i,c.2.1.getD i 0<18446744073709551616):=by
 unfold iN nQ at h;split at h;.cases h
 .split at h;.cases h
  .rename_i k z;unfold ta at h;split at h;.cases h
   .rename_i hl;split at h;.cases h
    .rename_i Q gT;obtain⟨b,_,rfl⟩:=Option.map_eq_some_iff.1 h;obtain⟨q,h2⟩:=KF gT;exact⟨k,z,by show Q.length=k;rw[q,nJ];omega,h2⟩
end Go.Proofs.YtefdakbahplnbaaGreatDoor
namespace Go.Proofs.YtefdakbahplnbaaGreatDoor
open Go.RowKit Mm
structure PV where
 p:bj
 oa:Option bl
 cap:Nat
 cF:Nat
def ef(t:TH)(j:Nat):ag:=if j=0 then I R t.phase else if j=1 then I aj t.call.ej else if j=2 then I aj t.call.nr else if j<7 then I ah (fk t.call (j-3))else if j<11 then I ah (t.args (j-7))else if j<15 then aH (t.bV (j-11))else if j=15 then I R t.cU else if j=16 then ad (bs t.dd)else if(j-17)%3=0 then ad (t.aG ((j-17)/3)).bf else if(j-17)%3=1 then I aj (t.aG ((j-17)/3)).ip else I R (t.aG ((j-17)/3)).aB
def mE(P:PV)(O:Nat)(T:Nat->TH)(y:ag)(i:Nat):ag:=if i=0 then ak P.oa P.p.bw.length P.cap else if i=1 then I R P.p.bg.aF else if i=2 then I R P.p.bg.aU else if i=3 then av (U ⟨O,0,ab⟩)else if i<91 then ef (T ((i-4)/29)) ((i-4)%29)else y
theorem MT(P:PV)(O:Nat)(T:Nat->TH)(y:ag)(n j:Nat)(u:n<3)(hj:j<29):mE P O T y (4+n*29+j)=ef (T n) j:=by unfold mE;rw[if_neg (by omega),if_neg (by omega),if_neg (by omega),if_neg (by omega),if_pos (by omega),show(4+n*29+j-4)/29=n by omega,show(4+n*29+j-4)%29=j by omega]
theorem Rd(P:PV)(O:Nat)(T:Nat->TH)(y:ag)(n:Nat)(u:n<3)(t:TH)(f:Nat->ag)(q:∀j,j<29->f (4+n*29+j)=ef t j)(h2:∀i,(∀j,j<29->i≠4+n*29+j)->f i=mE P O T y i):VA 92 f=VA 92 (mE P O (aO T n t) y):=by
 refine Bz _ _ _ fun i hi=>?_;by_cases L:4+n*29<=i/\i<4+n*29+29;.obtain⟨j,hj,rfl⟩:∃j,j<29/\i=4+n*29+j:=⟨i-(4+n*29),by omega,by omega⟩;rw[q j hj,MT _ _ _ _ _ _ u hj,dN]
 .rw[h2 i fun j hj=>by omega];unfold mE;split;.rfl
  .split;.rfl
   .split;.rfl
    .split;.rfl
     .split;.rw[ed];omega
      .rfl
theorem amv(P:PV)(O:Nat)(T:Nat->TH)(y:ag)(n j:Nat)(u:n<3)(hj:j<29)(v:ag)(t:TH)(h:∀k,k<29->ef t k=if k=j then v else ef (T n) k):VA 92 (e0 (mE P O T y) (4+n*29+j) v)=VA 92 (mE P O (aO T n t) y):=Rd P O T y n u t _ (fun k z=>by
 unfold e0;rw[h k z];by_cases Iw:k=j;.rw[if_pos (by omega),if_pos Iw]
 .rw[if_neg (by omega),if_neg Iw,MT _ _ _ _ _ _ u z]) fun i hi=>by
 unfold e0;by_cases vL:i=4+n*29+j;.exact absurd vL (hi j hj)
 .rw[if_neg vL]
def od(aF cg:Int)(k:KL)(v:VS)(aU:Int):Array ag:=#[I R aF,I R cg,I aj k.ej,I aj k.nr,I ah k.a0,I ah k.bR,I ah k.a2,I ah k.a3,ad v.v0.bf,I aj v.v0.ip,I R v.v0.aB,ad v.v1.bf,I aj v.v1.ip,I R v.v1.aB,ad v.v2.bf,I aj v.v2.ip,I R v.v2.aB,ad v.v3.bf,I aj v.v3.ip,I R v.v3.aB,I R aU]
def gE(e:EN):Array ag:=od e.aF e.cg e.call e.aG e.aU
def gk(l:List EN):List ag:=l.flatMap fun e=>(gE e).toList
theorem Lw(l:List EN)(e:EN):gk (l++[e])=gk l++(gE e).toList:=by simp[gk]
structure WX(g O:Nat)(P:PV)(s:WS)(y:ag)(W:ac):Prop where
 row:W.heap[g]?=U (.cells (VA 92 (mE P O s.T y)) 116 (0,0))
 mem:fp O s.mem W
 cW:W.ownsRow 0 103 21 y s.aX.length (gk s.aX)
 ne:O≠g
 nl:∀k,y.ownBlock=U k->k≠g/\k≠O
 cF:P.cF<=W.heap.size
 iv:∀V:ac,(∀k,k<P.cF->k≠g->k≠O->y.ownBlock≠U k->V.heap[k]?=W.heap[k]?)->P.cF<=V.heap.size->fc P.oa P.cap P.p V
structure Fr(g O:Nat)(y a8:ag)(W V:ac):Prop where
 os:V.os=W.os
 tape:V.tape=W.tape
 output:V.output=W.output
 size:W.heap.size<=V.heap.size
 block:∀k,k<W.heap.size->k≠g->k≠O->y.ownBlock≠U k->V.heap[k]?=W.heap[k]?
 CP:∀k,a8.ownBlock=U k->y.ownBlock=U k\/W.heap.size<=k
theorem Fr.refl(g O:Nat)(y:ag)(W:ac):Fr g O y y W W:=⟨J,J,J,aA _,fun _ _ _ _ _=>J,fun _ h=> .inl h⟩
theorem Fr.trans{g O:Nat}{l1 l2 mS:ag}{a b c:ac}(h:Fr g O l1 l2 a b)(k:Fr g O l2 mS b c):Fr g O l1 mS a c:=⟨k.os.trans h.os,k.tape.trans h.tape,k.output.trans h.output,bL h.size k.size,fun i hi q h2 h3=>(k.block i (dk hi h.size) q h2 (fun e=>by
 rcases h.CP i e with h4|h4;.exact h3 h4
 .omega)).trans (h.block i hi q h2 h3),fun i hi=>by
 rcases k.CP i hi with h4|h4;.exact h.CP i h4
 .exact .inr (bL h.size h4)⟩
theorem Fr.bk{g O:Nat}(y:ag){a b:ac}(h:aD a.heap.size a b):Fr g O y y a b:=⟨h.os,h.tape,h.output,h.size,fun k z _ _ _=>h.block k z,fun _ h=> .inl h⟩
theorem Fr.grown{g O k0:Nat}(y:ag){a b:ac}(h:a.grownBy b (U k0))(z:k0=g\/k0=O):Fr g O y y a b:=⟨h.os,h.tape,h.output,h.size,fun k dY q h2 _=>h.block k dY (fun e=>by cases e;omega),fun _ h=> .inl h⟩
theorem Fr.below{g O D:Nat}{l1 l2:ag}{w a b:ac}(h:Fr g O l1 l2 a b)(hb:aD D w a)(hB:D<=a.heap.size)(hg:D<=g)(hm:D<=O)(hl:∀k,l1.ownBlock=U k->D<=k):aD D w b:=hb.trans ⟨h.os,h.tape,h.output,h.size,fun k z=>h.block k (by omega) (by omega) (by omega) (fun e=>by have:=hl k e;omega)⟩
theorem WX.gh{g O:Nat}{P:PV}{s:WS}{y:ag}{W:ac}(h:WX g O P s y W):g<W.heap.size:=(bM.1 h.row).1
theorem WX.sR{g O:Nat}{P:PV}{s:WS}{y:ag}{W:ac}(h:WX g O P s y W):O<W.heap.size:=(bM.1 h.mem).1
theorem WX.cell{g O:Nat}{P:PV}{s:WS}{y:ag}{W:ac}(h:WX g O P s y W)(i:Nat)(hi:i<92):W.cell? ⟨g,i,ab⟩=U (mE P O s.T y i):=by rw[aT _ _ i _ _ _ h.row];exact km _ _ _ hi
theorem WX.b5{g O:Nat}{P:PV}{s:WS}{y:ag}{W:ac}(h:WX g O P s y W)(i:Nat):W.frozen? ⟨g,i,ab⟩=false:=cy _ _ i _ _ h.row
theorem WX.th{g O:Nat}{P:PV}{s:WS}{y:ag}{W:ac}(h:WX g O P s y W)(n j:Nat)(u:n<3)(hj:j<29):W.cell? ⟨g,4+n*29+j,ab⟩=U (ef (s.T n) j):=by rw[h.cell _ (by omega),MT _ _ _ _ _ _ u hj]
theorem WX.phase{g O:Nat}{P:PV}{s:WS}{y:ag}{W:ac}(h:WX g O P s y W)(n:Nat)(u:n<3):W.cell? ⟨g,4+n*29,ab⟩=U (I R (s.T n).phase):=h.th n 0 u (by omega)
theorem WX.ptr{g O:Nat}{P:PV}{s:WS}{y:ag}{W:ac}(h:WX g O P s y W):W.cell? ⟨g,3,ab⟩=U (av (U ⟨O,0,ab⟩)):=h.cell 3 (by omega)
theorem WX.D4{g O:Nat}{P:PV}{s:WS}{y:ag}{W:ac}(h:WX g O P s y W):W.cell? ⟨g,91,ab⟩=U y:=h.cell 91 (by omega)
theorem eP(t:TH):ef t 1=I aj t.call.ej/\ef t 2=I aj t.call.nr/\ef t 3=I ah t.call.a0/\ef t 4=I ah t.call.bR/\ef t 5=I ah t.call.a2/\ef t 6=I ah t.call.a3:=⟨J,J,J,J,J,J⟩
theorem GX(t:TH)(i:Nat)(hi:i<4):ef t (7+i)=I ah (t.args i):=by unfold ef;rw[if_neg (by omega),if_neg (by omega),if_neg (by omega),if_neg (by omega),if_pos (by omega),show 7+i-7=i by omega]
theorem PI(t:TH)(i:Nat)(hi:i<4):ef t (11+i)=aH (t.bV i):=by unfold ef;rw[if_neg (by omega),if_neg (by omega),if_neg (by omega),if_neg (by omega),if_neg (by omega),if_pos (by omega),show 11+i-11=i by omega]
theorem m_(t:TH)(i:Nat):ef t (17+i*3)=ad (t.aG i).bf/\ef t (17+i*3+1)=I aj (t.aG i).ip/\ef t (17+i*3+2)=I R (t.aG i).aB:=by
 unfold ef;refine⟨?_,?_,?_⟩;.rw[if_neg (by omega),if_neg (by omega),if_neg (by omega),if_neg (by omega),if_neg (by omega),if_neg (by omega),if_neg (by omega),if_neg (by omega),if_pos (by omega),show(17+i*3-17)/3=i by omega]
 .rw[if_neg (by omega),if_neg (by omega),if_neg (by omega),if_neg (by omega),if_neg (by omega),if_neg (by omega),if_neg (by omega),if_neg (by omega),if_neg (by omega),if_pos (by omega),show(17+i*3+1-17)/3=i by omega]
 .rw[if_neg (by omega),if_neg (by omega),if_neg (by omega),if_neg (by omega),if_neg (by omega),if_neg (by omega),if_neg (by omega),if_neg (by omega),if_neg (by omega),if_neg (by omega),show(17+i*3+2-17)/3=i by omega]
theorem pQ{W V:ac}{base e size n:Nat}{v:ag}{xs:List ag}{k:Nat}(h:W.ownsRow base e size v n xs)(hg:W.grownBy V (U k))(bo:v.ownBlock≠U k):V.ownsRow base e size v n xs:=h.kept hg (.inr bo)
theorem WX.au{g O:Nat}{P:PV}{s:WS}{y:ag}{W V:ac}(h:WX g O P s y W)(hb:aD W.heap.size W V):WX g O P s y V:=⟨(hb.block g h.gh).trans h.row,h.mem.au hb,yY h.cW hb,h.ne,h.nl,bL h.cF hb.size,fun cv hU F=>h.iv cv (fun k z q h2 h3=>(hU k z q h2 h3).trans (hb.block k (dk z h.cF))) F⟩
theorem WX.me{g O:Nat}{P:PV}{s:WS}{y:ag}{W V:ac}(h:WX g O P s y W){m:MS}(hm:fp O m V)(hg:W.grownBy V (U O)):WX g O P {s with mem:=m} y V:=⟨(hg.block g h.gh (fun e=>h.ne (dG e).symm)).trans h.row,hm,pQ h.cW hg (fun e=>(h.nl O e).2 J),h.ne,h.nl,bL h.cF hg.size,fun cv hU F=>h.iv cv (fun k z q h2 h3=>(hU k z q h2 h3).trans (hg.block k (dk z h.cF) (fun e=>h2 (dG e)))) F⟩
theorem Fg(W:ac)(g:Nat)(c:Array ag):W.grownBy (W.setRow g c) (U g):=⟨J,J,J,by rw[iz];exact aA _,fun k _ u=>ij W g k c (fun e=>u (by rw[e]))⟩
theorem WX.F_{g O:Nat}{P:PV}{s:WS}{y:ag}{W:ac}(h:WX g O P s y W)(T:Nat->TH){c:Array ag}(H:c=VA 92 (mE P O T y)):WX g O P {s with T:=T} y (W.setRow g c):=by have hg:=Fg W g c;refine⟨by rw[<-H];exact aV _ _ _ _ _ _ h.row,(hg.block O h.sR (fun e=>h.ne (dG e))).trans h.mem,pQ h.cW hg (fun e=>(h.nl g e).1 J),h.ne,h.nl,by rw[iz];exact h.cF,fun cv hU F=>h.iv cv (fun k z q h2 h3=>(hU k z q h2 h3).trans (ij W g k c q)) F⟩
theorem WX.wg{g O:Nat}{P:PV}{s:WS}{y:ag}{W:ac}(h:WX g O P s y W)(n j:Nat)(u:n<3)(hj:j<29)(v:ag)(t:TH)(H:∀k,k<29->ef t k=if k=j then v else ef (s.T n) k):WX g O P (s.put n t) y (W.setCell ⟨g,4+n*29+j,ab⟩ v):=by rw[cJ _ _ _ _ _ _ _ h.row,qu];exact h.F_ _ (amv P O s.T y n j u hj v t H)
theorem Fr.set{g O:Nat}(y:ag)(W:ac)(o:Nat)(v:ag):Fr g O y y W (W.setCell ⟨g,o,ab⟩ v):=Fr.grown y (k0:=g) (b4.set g o W v).grown (.inl J)
theorem WX.GO{g O:Nat}{P:PV}{s:WS}{y:ag}{W V:ac}(h:WX g O P s y W){r:Nat}(hg:W.grownBy V (U r))(q:r≠g)(h2:r≠O)(h3:y.ownBlock≠U r)(hb:P.cF<=r):WX g O P s y V:=⟨(hg.block g h.gh (fun e=>q (dG e).symm)).trans h.row,(hg.block O h.sR (fun e=>h2 (dG e).symm)).trans h.mem,pQ h.cW hg h3,h.ne,h.nl,bL h.cF hg.size,fun cv hU F=>h.iv cv (fun k z q1 q2 q3=>(hU k z q1 q2 q3).trans (hg.block k (dk z h.cF) (fun e=>by cases e;omega))) F⟩
theorem WX.Jz{g O:Nat}{P:PV}{s:WS}{y a8:ag}{W V:ac}(h:WX g O P s y W){l:List EN}(hg:W.grownBy V y.ownBlock)(hl:∀k,a8.ownBlock=U k->y.ownBlock=U k\/W.heap.size<=k)(ho:V.ownsRow 0 103 21 a8 l.length (gk l)):WX g O P {s with aX:=l} a8 (V.setCell ⟨g,91,ab⟩ a8):=by
 have eV:V.heap[g]?=U (.cells (VA 92 (mE P O s.T y)) 116 (0,0)):=(hg.block g h.gh (fun e=>(h.nl g e.symm).1 J)).trans h.row;have lQ:fp O s.mem V:=(hg.block O h.sR (fun e=>(h.nl O e.symm).2 J)).trans h.mem;have jb:∀k,a8.ownBlock=U k->k≠g/\k≠O:=fun k z=>by
  rcases hl k z with q|q;.exact h.nl k q
  .have:=h.gh;have:=h.sR;exact⟨by omega,by omega⟩
 have Fs:V.setCell ⟨g,91,ab⟩ a8=V.setRow g (VA 92 (mE P O s.T a8)):=by
  rw[cJ _ _ 91 _ _ _ _ eV,qu];congr 1;refine Bz _ _ _ fun i hi=>?_;unfold e0 mE;by_cases Vq:i=91;.subst Vq;rfl
  .rw[if_neg Vq];split;.rfl
   .split;.rfl
    .split;.rfl
     .split;.rfl
      .rw[if_pos (by omega),if_pos (by omega)]
 rw[Fs];have hg2:=Fg V g (VA 92 (mE P O s.T a8));have hs:g<V.heap.size:=(bM.1 eV).1;refine⟨aV _ _ _ _ _ _ eV,(hg2.block O (bM.1 lQ).1 (fun e=>h.ne (dG e))).trans lQ,pQ ho hg2 (fun e=>(jb g e).1 J),h.ne,jb,by rw[iz];exact bL h.cF hg.size,fun cv hU F=>h.iv cv (fun k z q h2 h3=>?_) F⟩;have h4:a8.ownBlock≠U k:=fun e=>by
  rcases hl k e with h5|h5;.exact h3 h5
  .have:=h.cF;omega
 exact((hU k z q h2 h4).trans (ij V g k _ q)).trans (hg.block k (dk z h.cF) (fun e=>h3 e.symm))
theorem WX.sk{g O:Nat}{P:PV}{s:WS}{y:ag}{W:ac}(h:WX g O P s y W)(n k:Nat)(u:n<3):WX g O P (s.put n {s.T n with phase:=k}) y (W.setCell ⟨g,4+n*29,ab⟩ (I R k)):=h.wg n 0 u (by omega) _ _ fun j _=>by
 by_cases hj:j=0;.subst hj;rfl
 .rw[if_neg hj];unfold ef;rw[if_neg hj,if_neg hj]
theorem acn(n:Int)(w:ac):ap ae 105 #[I R n] w fun e w'=>e=aq (aH (decide (0<=n)&&decide (n<3)))/\w'=w:=by
 by_cases h:0<=n;.go_enter func105,ntmps105;go_wp2;go_ret;exact⟨by simp[h],J⟩
 .have u:n<0:=by omega
  go_enter func105,ntmps105;go_wp2;go_ret;refine⟨?_,J⟩;rw[show decide (0<=n)=false from decide_eq_false (by omega)];rfl
theorem PO(c:KL)(w:ac):ap ae 192 #[cR c] w fun e w'=>e=aq (aH (decide (c.nr<9)))/\aD w.heap.size w w':=by
 unfold cR bX;by_cases h:c.nr<9
 .have q:(c.nr:Int)<9:=by omega
  have HV:=aa (decide_eq_true h);clear h;go_enter func192,ntmps192;go_wp2;go_ret;rw[HV.out];exact⟨J,ai _ _⟩
 .have q:¬(c.nr:Int)<9:=by omega
  have HV:=aa (decide_eq_false h);clear h;go_enter func192,ntmps192;go_wp2;go_ret;rw[HV.out];exact⟨J,ai _ _⟩
def qt(f:Nat):Nat:=if f=5 then 14 else if f=6 then 36 else if f=9 then 12 else 22
set_option maxRecDepth 20000 in theorem amY(f:Nat)(w:ac):ap ae 225 #[b8 43 (I R (f:Int))] w fun e w'=>e=aq (I R (qt f:Nat))/\w'=w:=by
 have H5:=fun w=>O' (f:Int) 5 w;have H6:=fun w=>O' (f:Int) 6 w;have H9:=fun w=>O' (f:Int) 9 w;obtain⟨aI,hz⟩:∃aI:Int,aI=f:=⟨_,J⟩;rw[<-hz]at H5 H6 H9⊢;by_cases h5:f=5
 .have pz:(aI==5)=true:=by rw[hz];simp;omega
  have HV:=aa (show qt f=14 from if_pos h5);rw[pz]at H5;clear hz h5 pz H6 H9;go_enter func225,ntmps225;go_wp2_with fail;refine(H5 _).mono ?_;rintro e w'⟨rfl,rfl⟩;go_wp2;go_ret;rw[HV.out];exact⟨J,J⟩
 have pz:(aI==5)=false:=by rw[hz];simp;omega
 rw[pz]at H5;clear pz;by_cases h6:f=6
 .have zv:(aI==6)=true:=by rw[hz];simp;omega
  have HV:=aa (show qt f=36 by unfold qt;rw[if_neg h5,if_pos h6]);rw[zv]at H6;clear hz h5 h6 zv H9;go_enter func225,ntmps225;go_wp2_with fail;refine(H5 _).mono ?_;rintro e w'⟨rfl,rfl⟩;go_wp2_with fail;refine(H6 _).mono ?_;rintro e w'⟨rfl,rfl⟩;go_wp2;go_ret;rw[HV.out];exact⟨J,J⟩
 have zv:(aI==6)=false:=by rw[hz];simp;omega
 rw[zv]at H6;clear zv;by_cases h9:f=9
 .have E4:(aI==9)=true:=by rw[hz];simp;omega
  have HV:=aa (show qt f=12 by unfold qt;rw[if_neg h5,if_neg h6,if_pos h9]);rw[E4]at H9;clear hz h5 h6 h9 E4;go_enter func225,ntmps225;go_wp2_with fail;refine(H5 _).mono ?_;rintro e w'⟨rfl,rfl⟩;go_wp2_with fail;refine(H6 _).mono ?_;rintro e w'⟨rfl,rfl⟩;go_wp2_with fail;refine(H9 _).mono ?_;rintro e w'⟨rfl,rfl⟩;go_wp2;go_ret;rw[HV.out];exact⟨J,J⟩
 have E4:(aI==9)=false:=by rw[hz];simp;omega
 have HV:=aa (show qt f=22 by unfold qt;rw[if_neg h5,if_neg h6,if_neg h9]);rw[E4]at H9;clear hz h5 h6 h9 E4;go_enter func225,ntmps225;go_wp2_with fail;refine(H5 _).mono ?_;rintro e w'⟨rfl,rfl⟩;go_wp2_with fail;refine(H6 _).mono ?_;rintro e w'⟨rfl,rfl⟩;go_wp2_with fail;refine(H9 _).mono ?_;rintro e w'⟨rfl,rfl⟩;go_wp2;go_ret;rw[HV.out];exact⟨J,J⟩
theorem Rb(l:W8):N1 l [0]=(l.getLast?==U 0):=by
 unfold N1;cases h:l.getLast? with
  |none=>rw[List.getLast?_eq_none_iff]at h;subst h;rfl
  |some x=>
   obtain⟨r,rfl⟩:=List.getLast?_eq_some_iff.1 h;by_cases hx:x=0;.subst hx;simp
   .have:([0]:W8).isSuffixOf (r++[x])=false:=by rw[Bool.eq_false_iff];intro H;rw[List.isSuffixOf_iff_suffix]at H;obtain⟨t,ht⟩:=H;have:=congrArg List.getLast? ht;simp at this;exact hx this.symm
    rw[this];simp[hx]
theorem aiO(k:Nat)(l:W8)(hl:l.length<=9000)(w:ac):ap ae 188 #[I R k,ad (bs l)] w fun e w'=>e=aq (aH (nc k l))/\w'=w:=by
 have HH:=Tryz.strings_HasSuffix (bs l) ⟨#[0]⟩ w (by rw[ct];omega);rw[fy,show(⟨#[0]⟩:ByteArray).data.toList=[0]from J,Rb]at HH;have cP:=ct l;obtain⟨B,N⟩:=af (bs l);rw[<-N]at HH cP⊢;clear N;unfold nc;by_cases z:k=3
 .subst z;rw[if_pos J];by_cases pO:l.length=16
  .have q:(B.size:Int)=16:=by omega
   have HV:=aa (show(l.length==16)=true by rw[pO];rfl);clear HH cP pO hl;go_enter func188,ntmps188;go_wp2;go_ret;rw[HV.out];exact⟨J,J⟩
  .have q:¬(B.size:Int)=16:=by omega
   have HV:=aa (show(l.length==16)=false by simpa using pO);clear HH cP pO hl;go_enter func188,ntmps188;go_wp2;go_ret;rw[HV.out];exact⟨by show aq (aH ((B.size:Int)==16))=_;rw[beq_eq_false_iff_ne.2 (by omega)],J⟩
 .rw[if_neg z];have h3:¬(k:Int)=3:=by omega
  cases F:(l.getLast?==U 0)with
   |true=>rw[F]at HH;go_enter func188,ntmps188;go_wp2_with(go_at_call 226;refine HH.mono ?_;rintro e w'⟨rfl,rfl⟩);go_ret;exact⟨by simp,J⟩
   |false=>
    rw[F]at HH;by_cases nB:40<l.length
    .have q:(40:Int)<B.size:=by omega
     have HV:=aa (decide_eq_true nB);clear cP hl nB F;go_enter func188,ntmps188;go_wp2_with(go_at_call 226;refine HH.mono ?_;rintro e w'⟨rfl,rfl⟩);go_ret;rw[HV.out];exact⟨J,J⟩
    .have q:¬(40:Int)<B.size:=by omega
     have HV:=aa (decide_eq_false nB);clear cP hl nB F;go_enter func188,ntmps188;go_wp2_with(go_at_call 226;refine HH.mono ?_;rintro e w'⟨rfl,rfl⟩);go_ret;rw[HV.out];exact⟨by show aq (aH (decide ((40:Int)<B.size)))=_;rw[decide_eq_false (by omega)];rfl,J⟩
def eo(v:VL):Array ag:=#[ad v.bf,I aj v.ip,I R v.aB]
theorem wU:(ae.info? 71).map (·.size)=U 3:=by kernel_rfl
theorem CA(v:VL):(eo v).all (·.oneCell')=true:=by simp[eo,fG]
theorem BV{fn:Func}{p ay:Tmp}(h:fn.results=#[.cell p 71, .tmp ay])(tmps:Array ag)(w:ac)(g:Nat)(cs:Array ag)(v:ag)(F:cs.size=3)(hp:tmps.getD p undef=av (U ⟨g,0,ab⟩))(hv:tmps.getD ay undef=v)(hg:w.heap[g]?=U (.cells cs 71 (0,0))):(results fn tmps).run ae w= .ok (az #[aw cs,v]) w:=by rw[results_cell_tmp h,hp,hv];have hl:=tT (P:=ae) w g 71 71 cs (0,0) _ hg underlying71 J (by rw[F];exact wU);simp[asAddr,hl]
def p5(k:Nat)(l:W8):VL×Nat:=match mG k l with|U v=>(v,0)|ab=>(dE,if k=3 then 3 else 6)
theorem anY{l:W8}(h:(l.getLast?==U 0)=true):AN l [0]=l.dropLast:=by have q:=Rb l;rw[h]at q;unfold AN;rw[if_pos q,List.dropLast_eq_take];rfl
theorem UQ(k:Nat)(z:k=2\/k=3)(l:W8)(hl:l.length<=9000)(w:ac):ap ae 189 #[I R k,ad (bs l)] w fun e w'=>e=aq (az #[aw (eo (p5 k l).1),cj (p5 k l).2])/\aD w.heap.size w w':=by
 have aZ:(w.alloc (.cells #[ad ⟨#[]⟩,I aj 0,I R 0] 71)).heap[w.heap.size]?=U (.cells #[ad ⟨#[]⟩,I aj 0,I R 0] 71 (0,0)):=a7 _ _;obtain⟨V,hV,g7,dp⟩:∃V,V=w.alloc (.cells #[ad ⟨#[]⟩,I aj 0,I R 0] 71)/\V.heap[w.heap.size]?=U (.cells #[ad ⟨#[]⟩,I aj 0,I R 0] 71 (0,0))/\aD w.heap.size w V:=⟨_,J,aZ,ai _ _⟩;have CT:=(bM.1 g7).1;have G:=Tryz.strings_CutSuffix (bs l) ⟨#[0]⟩ V (by rw[ct];omega);rw[fy,show(⟨#[0]⟩:ByteArray).data.toList=[0]from J,Rb]at G;have HA:=aeQ (bs l) V;clear aZ hl;rcases z with rfl|rfl
 .cases F:(l.getLast?==U 0)with
   |true=>rw[F]at G;have HR:=aa (show p5 2 l=(⟨bs l.dropLast,0,0⟩,0)by unfold p5 mG;rw[if_neg (by omega),if_pos (eq_of_beq F)]);rw[anY F,show(⟨(l.dropLast).toArray⟩:ByteArray)=bs l.dropLast from J]at G;obtain⟨d,hd⟩:=af (bs l.dropLast);rw[<-hd]at G HR;obtain⟨B,N⟩:=af (bs l);rw[<-N]at G⊢;clear hd N F HA;go_enter func189,ntmps189;go_wp2_with fail;rw[<-hV];refine G.mono ?_;rintro e w'⟨rfl,bT⟩;rw[bT];clear bT hV G;go_wp2_with(refine bK J 71 _ _ J w.heap.size (eo ⟨d,0,0⟩) J J 71 _ g7 wU J (CA _) ?_);refine ba (v:=az #[aw (eo ⟨d,0,0⟩), .nilIface]) (BV J _ _ w.heap.size (eo ⟨d,0,0⟩) _ J J J (aV _ _ _ _ _ _ g7)) J ⟨?_,below_setRow dp (aA _) _⟩;rw[HR.out];rfl
   |false=>rw[F]at G;have HR:=aa (show p5 2 l=(dE,6)by unfold p5 mG;rw[if_neg (by omega),if_neg (fun h=>by rw[h]at F;simp at F)];rfl);obtain⟨d,hd⟩:∃d:ByteArray,d=⟨(AN l [0]).toArray⟩:=⟨_,J⟩;rw[<-hd]at G;obtain⟨B,N⟩:=af (bs l);rw[<-N]at G⊢;clear hd N F HA;go_enter func189,ntmps189;go_wp2_with fail;rw[<-hV];refine G.mono ?_;rintro e w'⟨rfl,bT⟩;rw[bT];clear bT hV G;go_wp2_with(refine bK J 71 _ _ J w.heap.size (eo dE) J J 71 _ g7 wU J (CA _) ?_);refine ba (v:=az #[aw (eo dE),b8 43 (I R 6)]) (BV J _ _ w.heap.size (eo dE) _ J J J (aV _ _ _ _ _ _ g7)) J ⟨?_,below_setRow dp (aA _) _⟩;rw[HR.out];rfl
 .cases L:gS (bs l)with
   |none=>rw[L]at HA;have HR:=aa (show p5 3 l=(dE,3)by unfold p5 mG;rw[if_pos J,L];rfl);unfold Ea at HA;obtain⟨B,N⟩:=af (bs l);rw[<-N]at HA⊢;clear N L G;go_enter func189,ntmps189;go_wp2_with fail;rw[<-hV];refine HA.mono ?_;rintro e X⟨rfl,hX⟩;have m9:=(hX.block _ CT).trans g7;have S:=aa (ax dp hX);clear hV HA hX;go_wp2_with(refine bK J 71 _ _ J w.heap.size (eo dE) J J 71 _ m9 wU J (CA _) ?_);refine ba (v:=az #[aw (eo dE),b8 43 (I R 3)]) (BV J _ _ w.heap.size (eo dE) _ J J J (aV _ _ _ _ _ _ m9)) J ⟨?_,below_setRow S.out (aA _) _⟩;rw[HR.out];rfl
   |some x=>obtain⟨ip,aB⟩:=x;rw[L]at HA;have HR:=aa (show p5 3 l=(⟨fH,ip,aB⟩,0)by unfold p5 mG;rw[if_pos J,L];rfl);unfold Ea at HA;obtain⟨B,N⟩:=af (bs l);rw[<-N]at HA⊢;clear N L G;go_enter func189,ntmps189;go_wp2_with fail;rw[<-hV];refine HA.mono ?_;rintro e X⟨rfl,hX⟩;have m9:=(hX.block _ CT).trans g7;have S:=aa (ax dp hX);clear hV HA hX;go_wp2_with(refine bK J 71 _ _ J w.heap.size (eo ⟨fH,ip,aB⟩) J J 71 _ m9 wU J (CA _) ?_);refine ba (v:=az #[aw (eo ⟨fH,ip,aB⟩), .nilIface]) (BV J _ _ w.heap.size (eo ⟨fH,ip,aB⟩) _ J J J (aV _ _ _ _ _ _ m9)) J ⟨?_,below_setRow S.out (aA _) _⟩;rw[HR.out];rfl
theorem UH(k:Nat)(v:VL)(hv:rz k v)(w:ac):ap ae 230 #[I R k,aw (eo v)] w fun e w'=>e=aq (az #[ad (bs (gU k v)), .nilIface])/\aD w.heap.size w w':=by
 obtain⟨bf,ip,aB⟩:=v;unfold eo;obtain⟨V,hV,dp,jt,iM⟩:=eN w #[ad bf,I aj ip,I R aB] 71;have c0:=iM 0;have c1:=iM 1;have c2:=iM 2;simp only[cK,cT,c7]at c0 c1 c2;clear iM;rcases hv with⟨rfl,q,h2,h3,h4⟩|⟨rfl,q,h2,B,h3,h4⟩
 .simp only at q h2 h3 h4;have HR:=aa (show bs (gU 2 ⟨bf,ip,aB⟩)=bf++⟨#[0]⟩by unfold gU;rw[if_neg (by omega),<-b7,Dc];rfl);have aI:¬9223372036854775807<bf.size+1:=by omega
  clear h2 h3 h4;go_enter func230,ntmps230;go_wp2;go_ret2;exact⟨by rw[HR.out];rfl,ai _ _⟩
 .simp only at q h2 h3;subst h3;have S:=fun X=>O0 ip h2 B h4 X;rw[show(⟨(iI ip B).toArray⟩:ByteArray)=bs (iI ip B)from J]at S;have HR:=aa (show gU 3 ⟨bf,ip,(B:Int)⟩=iI ip B from J);obtain⟨r,L⟩:=af (bs (iI ip B));rw[<-L]at S;have bc:=aa L;clear L q h2 h4;go_enter func230,ntmps230;go_wp2_with fail;rw[<-hV];clear hV;refine(S _).mono ?_;rintro e X⟨rfl,hX⟩;go_wp2;go_ret2;exact⟨by rw[HR.out,<-bc.out];rfl,ax dp hX⟩
structure oU(base:Nat)(oa:Option bl)(l:List Nat)(W:ac):Prop where
 ez:0<l.length->∃b off,oa=U ⟨b,off,ab⟩/\base<=b/\b<W.heap.size/\∀i x,l[i]?=U x->W.cell? ⟨b,off+i,ab⟩=U (I R (x:Nat))
theorem oU.heap{base:Nat}{oa:Option bl}{l:List Nat}{W V:ac}(h:oU base oa l W)(hb:∀k,base<=k->k<W.heap.size->V.heap[k]?=W.heap[k]?)(F:W.heap.size<=V.heap.size):oU base oa l V:=⟨fun h0=>by obtain⟨b,off,q,h4,h2,h3⟩:=h.ez h0;exact⟨b,off,q,h4,by omega,fun i x hi=>by rw[dt (hb b h4 h2)];exact h3 i x hi⟩⟩
theorem oU.au{base:Nat}{oa:Option bl}{l:List Nat}{W V:ac}(h:oU base oa l W)(hb:aD W.heap.size W V):oU base oa l V:=h.heap (fun k _ z=>hb.block k z) hb.size
theorem oU.cx{base Z6:Nat}{oa:Option bl}{l:List Nat}{W:ac}(h:oU base oa l W)(hb:Z6<=base):oU Z6 oa l W:=⟨fun h0=>by obtain⟨b,off,q,h4,h2,h3⟩:=h.ez h0;exact⟨b,off,q,by omega,h2,h3⟩⟩
def A6(l:List Nat):List ag:=l.map fun x=>I R (x:Nat)
theorem afM:∃i,ae.info? 3=U i/\i.zero=U (I R 0)/\i.size=1/\i.bytes=8:=by
 have hz:(ae.info? 3).map (·.zero)=U (U (I R 0)):=by kernel_rfl
 have F:(ae.info? 3).map (·.size)=U 1:=by kernel_rfl
 have hb:(ae.info? 3).map (·.bytes)=U 8:=by kernel_rfl
 cases N:ae.info? 3 with
  |none=>rw[N]at F;simp at F
  |some i=>rw[N]at hz F hb;simp at hz F hb;exact⟨i,J,hz,F,hb⟩
theorem abl{W:ac}{base:Nat}{v:ag}{l:List Nat}(h:W.ownsRow base 3 1 v l.length (A6 l)):∃oa cap,v=ak oa l.length cap/\l.length<=cap/\cap<=maxLen/\oU base oa l W:=by
 have h':=h;rcases h.2 with⟨rfl,u⟩|⟨g,cap,co,rfl,hb,hg,q,h2,h3,h4⟩;.exact⟨ab,0,by rw[u],by omega,by unfold maxLen;omega,⟨fun h0=>by omega⟩⟩
 .refine⟨_,cap,J,q,h2,⟨fun h0=>⟨g,0,J,(h'.lt g J).1,(h'.lt g J).2,fun i x hx=>?_⟩⟩⟩;have h5:=h'.cells (g:=g) J i (I R (x:Nat)) (by unfold A6;rw[List.getElem?_map,hx];rfl);rwa[show(⟨g,0,ab⟩:bl).add i=⟨g,0+i,ab⟩by unfold Addr.add;split<;>simp_all]at h5
def ra(nr:Nat):Array ag:=#[I R (a1 nr 0:Nat),I R (a1 nr 1:Nat),I R (a1 nr 2:Nat),I R (a1 nr 3:Nat)]
theorem EW(nr i:Nat)(h:i<4):(ra nr)[i]?=U (I R (a1 nr i:Nat)):=by rcases show i=0\/i=1\/i=2\/i=3 by omega with rfl|rfl|rfl|rfl<;>rfl
theorem Sh(nr:Nat):(ra nr).all (·.oneCell')=true:=by simp[ra,fG]
theorem KO:(ae.info? 185).map (·.size)=U 4:=by kernel_rfl
theorem ajr{fn:Func}{p ay:Tmp}(h:fn.results=#[.tmp ay, .cell p 185])(tmps:Array ag)(w:ac)(g:Nat)(cs:Array ag)(v:ag)(F:cs.size=4)(hp:tmps.getD p undef=av (U ⟨g,0,ab⟩))(hv:tmps.getD ay undef=v)(hg:w.heap[g]?=U (.cells cs 185 (0,0))):(results fn tmps).run ae w= .ok (az #[v,aw cs]) w:=by have hl:=tT (P:=ae) w g 185 185 cs (0,0) _ hg underlying185 J (by rw[F];exact KO);rw[Array.getD_eq_getD_getElem?]at hp hv;simp[results,h,hp,hv,asAddr,hl]
def pC(nr i:Nat):List Nat:=(tX i).filter fun j=>decide (2<=a1 nr j)
theorem ah5{nr:Nat}(h:nr<=8):pC nr 4=bx nr:=by unfold pC bx;rw[if_pos h]
theorem aol(nr i:Nat):pC nr (i+1)=pC nr i++if 2<=a1 nr i then[i]else[]:=by
 unfold pC;rw[List.range_succ,apb];congr 1;by_cases h:2<=a1 nr i;.rw[if_pos h];simp[h]
 .rw[if_neg h];simp[h]
theorem ah9(nr i:Nat):(pC nr i).length<=i:=by unfold pC;exact bL (List.length_filter_le _ _) (by simp)
theorem Qa(nr i:Nat):a1 nr i<=3:=by
 have key:∀l∈S1,∀x∈l,x<=3:=by decide
 unfold a1;rw[cI,cI];cases h:S1[nr]? with
  |none=>simp
  |some l=>
   simp only[vE];cases h2:l[i]? with
    |none=>simp
    |some x=>exact key l (iy h) x (iy h2)
theorem am1(nr:Nat)(h:nr<=8)(w:ac):(Instr.index 188 (aw qX) (I aj nr)).run ae w= .ok (AF nr) w:=by rcases sf h with rfl|rfl|rfl|rfl|rfl|rfl|rfl|rfl|rfl<;>kernel_rfl
theorem Xs{W:ac}{r:Nat}(h:W.heap[r]?=U (.cells #[I R 0,I R 0,I R 0,I R 0] 185 (0,0))):(W.cell? ⟨r,0,ab⟩=U (I R 0)/\W.cell? ⟨r,1,ab⟩=U (I R 0)/\W.cell? ⟨r,2,ab⟩=U (I R 0)/\W.cell? ⟨r,3,ab⟩=U (I R 0))/\W.frozen? ⟨r,0,ab⟩=false/\W.frozen? ⟨r,1,ab⟩=false/\W.frozen? ⟨r,2,ab⟩=false/\W.frozen? ⟨r,3,ab⟩=false:=⟨⟨aT _ _ 0 _ _ _ h,aT _ _ 1 _ _ _ h,aT _ _ 2 _ _ _ h,aT _ _ 3 _ _ _ h⟩,cy _ _ 0 _ _ h,cy _ _ 1 _ _ h,cy _ _ 2 _ _ h,cy _ _ 3 _ _ h⟩
theorem NJ{W:ac}{r:Nat}(h:W.heap[r]?=U (.cells #[I R 0,I R 0,I R 0,I R 0] 185 (0,0)))(v0 v1 v2 v3:ag):(((W.setCell ⟨r,0,ab⟩ v0).setCell ⟨r,1,ab⟩ v1).setCell ⟨r,2,ab⟩ v2).setCell ⟨r,3,ab⟩ v3=W.setRow r #[v0,v1,v2,v3]:=by rw[cJ _ _ 0 _ _ _ _ h,cJ _ _ 1 _ _ _ _ (aV _ _ _ _ _ _ h),l' _ _ _ _ _ _ h,cJ _ _ 2 _ _ _ _ (aV _ _ _ _ _ _ h),l' _ _ _ _ _ _ h,cJ _ _ 3 _ _ _ _ (aV _ _ _ _ _ _ h),l' _ _ _ _ _ _ h];rfl
structure Ft(w:ac)(nr r4:Nat)(X:ac):Prop where
 below:aD w.heap.size w X
 ci:X.heap[w.heap.size+1]?=U (.cells #[I R 0,I R 0,I R 0,I R 0] 185 (0,0))
 row:X.heap[r4]?=U (.cells (ra nr) 185 (0,0))
 le:w.heap.size+1<r4
theorem Ft.grown{w:ac}{nr r4:Nat}{X Y:ac}{row:Option Nat}(h:Ft w nr r4 X)(o:Obj)(hg:(X.alloc o).grownBy Y row)(L:∀k,row=U k->r4+1<=k):Ft w nr r4 Y:=by have h4:=(bM.1 h.row).1;have hl:=h.le;have hb:∀k,k<=r4->Y.heap[k]?=X.heap[k]?:=fun k z=>(hg.block k (by rw[bA];omega) (fun e=>by have:=L k e.symm;omega)).trans ((ai X o).block k (by omega));exact⟨h.below.trans ⟨hg.os,hg.tape,hg.output,bL (ai X o).size hg.size,fun k z=>hb k (by omega)⟩,(hb _ (by omega)).trans h.ci,(hb r4 (aA _)).trans h.row,h.le⟩
set_option maxHeartbeats 2000000 in set_option maxRecDepth 20000 in theorem TI(c:KL)(h8:c.nr<=8)(w:ac):ap ae 185 #[cR c] w fun e w'=>(∃oa cap,e=aq (az #[ak oa (bx c.nr).length cap,aw (ra c.nr)])/\(bx c.nr).length<=cap/\cap<=maxLen/\oU w.heap.size oa (bx c.nr) w')/\aD w.heap.size w w':=by
 have HI:=fun X=>PO c X;rw[decide_eq_true (by omega:c.nr<9)]at HI;unfold cR bX at HI⊢;obtain⟨V,hV,dp,Bq,g7⟩:∃V,V=(w.alloc (.cells #[I aj c.ej,I aj c.nr,I ah c.a0,I ah c.bR,I ah c.a2,I ah c.a3] 68)).alloc (.cells #[I R 0,I R 0,I R 0,I R 0] 185)/\aD w.heap.size w V/\(∀j:Nat,V.cell? ⟨w.heap.size,j,ab⟩=(#[I aj c.ej,I aj c.nr,I ah c.a0,I ah c.bR,I ah c.a2,I ah c.a3]:Array ag)[j]?)/\V.heap[w.heap.size+1]?=U (.cells #[I R 0,I R 0,I R 0,I R 0] 185 (0,0)):=by obtain⟨V,q,h2,h3,h4⟩:=qZ w #[I aj c.ej,I aj c.nr,I ah c.a0,I ah c.bR,I ah c.a2,I ah c.a3] #[I R 0,I R 0,I R 0,I R 0] 68 185;refine⟨V,q,h2,h3,?_⟩;rw[q];have:=a7 (w.alloc (.cells #[I aj c.ej,I aj c.nr,I ah c.a0,I ah c.bR,I ah c.a2,I ah c.a3] 68)) (.cells #[I R 0,I R 0,I R 0,I R 0] 185);rwa[bA]at this
 have x0:=Bq 0;have x1:=Bq 1;have x2:=Bq 2;have x3:=Bq 3;have x4:=Bq 4;have x5:=Bq 5;simp only[cK,cT,c7]at x0 x1 x2 x3 x4 x5;clear Bq;obtain⟨nr,b0⟩:=af c.nr;have Sb:=fun W=>am1 nr (by omega) W;have s9:=fun W=>Sv nr W;have HF:=fun W=>Gi W;obtain⟨FA,n_⟩:=af qX;obtain⟨UC,zF⟩:=af (AF nr);rw[<-n_]at Sb;rw[<-zF]at Sb s9;simp only[<-n_]at HF;unfold n5 at s9;rw[<-b0]at HI x1 hV⊢;have HK:=aa (show∀i,i<4->(ra nr)[i]?=U (I R (a1 nr i:Nat))from fun i h=>EW nr i h);obtain⟨k0,kH⟩:=af (a1 nr 0);obtain⟨k1,dY⟩:=af (a1 nr 1);obtain⟨k2,gG⟩:=af (a1 nr 2);obtain⟨k3,iw⟩:=af (a1 nr 3);have ln:=aa (show ra nr=#[I R (k0:Nat),I R (k1:Nat),I R (k2:Nat),I R (k3:Nat)]by rw[kH,dY,gG,iw];rfl);rw[<-kH,<-dY,<-gG,<-iw]at s9;have Zx:=aa (show nr<=8 by omega);have n1:(0:Int)<=nr:=by omega
 have n2:(nr:Int)<9:=by have:=Zx.out;omega
 clear n_ zF kH dY gG iw b0 h8;go_enter func185,ntmps185;go_wp2_with fail;rw[<-hV];clear hV;refine(HI _).mono ?_;rintro e X⟨rfl,hX⟩;have m9:=(hX.block _ (bM.1 g7).1).trans g7;have y1:=ao hX x1;have S:=aa (ax dp hX);have xZ:=(bM.1 m9).1;clear hX dp g7 x0 x1 x2 x3 x4 x5 HI;go_wp2_with fail;have z1:X.drew.cell? ⟨w.heap.size,1,ab⟩=U (I aj nr):=y1;have ZJ:(X.alloc (.cells #[I R 0,I R 0,I R 0,I R 0] 185)).drew.cell? ⟨w.heap.size,1,ab⟩=U (I aj nr):=ao (ai X _).drew y1;have zb:(X.alloc (.cells #[I R 0,I R 0,I R 0,I R 0] 185)).drew.heap[X.heap.size]?=U (.cells #[I R 0,I R 0,I R 0,I R 0] 185 (0,0)):=a7 X _;go_cut[4](fun eG wc=>∃r4:Nat,eG=av (U ⟨r4,0,ab⟩)/\Hid (Ft w nr r4 wc));case first=>go_region_law(first|(go_simp;go_at_call 92;refine(HF _).mono ?_;rintro e Y⟨rfl,hY⟩;(first|(have u1:=ao hY z1;have An:=ao (ai Y (.cells #[I R 0,I R 0,I R 0,I R 0] 185)) u1;have jh:=aa (bQ (ax S.out.drew hY) ((hY.block (w.heap.size+1) xZ).trans m9)))|(have u1:=ao hY ZJ;have jh:=aa (ax (ax S.out (ai X _)).drew hY);have uh:=(hY.block X.heap.size (by simp[ll])).trans zb;have m6:=(hY.block (w.heap.size+1) (by simp only[ll];rw[bA];omega)).trans (((ai X (.cells #[I R 0,I R 0,I R 0,I R 0] 185)).block _ xZ).trans m9);obtain⟨⟨p0,p1,p2,p3⟩,g0,g1,g2,g3⟩:=Xs uh));clear hY));all_goals go_wp2_with fail;go_meet;case rel=>first|exact⟨Y.heap.size,J,aa ⟨ax jh.out.1 (ai _ _),((ai Y _).block _ (bM.1 jh.out.2).1).trans jh.out.2,by rw[ln.out];exact a7 _ _,(bM.1 jh.out.2).1⟩⟩|exact⟨X.heap.size,J,aa ⟨by rw[NJ uh];exact below_setRow jh.out (by omega) _,by rw[NJ uh];exact(setRow_other _ _ _ _ (by omega)).trans m6,by rw[NJ uh,ln.out];exact aV _ _ _ _ _ _ uh,xZ⟩⟩
 case rest=>
  obtain⟨r4,rfl,G⟩:=hcut;obtain⟨eq,d8,dh,dD,dz⟩:=afM;clear z1 ZJ zb y1 m9 xZ S Sb s9 HF;go_wp2;go_loopw[5,16](fun aC aL w'=>∃(i:Nat)(y:ag),aC=y/\aL=I R i/\i<=4/\Hid (Ft w nr r4 w')/\Hid (w'.ownsRow (r4+1) 3 1 y (pC nr i).length (A6 (pC nr i))))(fun _ aL _=>4-(intOf aL).toNat);case atStart=>exact⟨0,_,J,J,by omega,G,aa (World.ownsRow_nil _ _ _ _)⟩
  case round=>
   obtain⟨i,aC,BQ,rfl,hi,G,HO⟩:=hrel;replace BQ:=BQ.symm;subst BQ;by_cases am:i<4
   .have zA:wr.cell? ⟨r4,i,ab⟩=U (I R (a1 nr i:Nat)):=(aT _ _ i _ _ _ G.out.row).trans (HK.out i am);have bN:=aol nr i;have oI:=Qa nr i;have l6:=ah9 nr i;obtain⟨k,z⟩:=af (a1 nr i);rw[<-z]at zA bN oI;have i1:(0:Int)<=i:=by omega
    have i2:(i:Int)<4:=by omega
    have Ax:=(bM.1 G.out.row).1;obtain⟨m,hm⟩:=af (pC nr i).length;rw[<-hm]at HO l6;clear z;by_cases h2:2<=k
    .rw[if_pos h2]at bN;have fz:=aa bN;have HM:=aa hm;clear bN hm;have key:∀(b2:Bool),((k:Int)==2)=b2->((k:Int)==3)=!b2->True:=fun _ _ _=>trivial;have hb:(((k:Int)==2)=true)\/(((k:Int)==2)=false/\((k:Int)==3)=true):=by
      rcases show k=2\/k=3 by omega with rfl|rfl;.exact .inl J
      .exact .inr ⟨J,J⟩
     clear key h2 oI;rcases hb with b2|⟨b2,b3⟩;all_goals
      go_wp2_with(refine wpList_append_lies _ (by rfl) _ _ _ (by rfl) (r4+1) 3 eq _ 1 8 underlying89 d8 dh dD dz J (by omega) aC m (A6 (pC nr i)) (by rfl) (HO.out.alloc _) ⟨wr.heap.size,0,ab⟩ 1 1 [I R i] (by rfl) (by rfl) (lS (cs:=#[I R i]) (t:=3) (fr:=(0,0)) (a7 wr _)) (by simp[fG]) (by omega) (by simp only[maxLen];omega) (by omega) (by rw[bA];omega) (wr.heap.size+1) (by simp) ?_;intro kU Gx yj Ac zm I9 Ip;have Hq:=aa (Ft.grown G.out _ zm (fun k z=>(HO.out.lt k z).1));have uM:=aa Ac;clear Ac zm I9 Ip);replace uM:=aa (show yj.ownsRow (r4+1) 3 1 (ak (U ⟨kU,0,ab⟩) (m+1) Gx) (pC nr (i+1)).length (A6 (pC nr (i+1)))by have:=uM.out;rw[fz.out];unfold A6 at this⊢;rw[cl,gH,mU,<-HM.out];exact this);go_wp2;go_round;case rel=>exact⟨i+1,_,J,by go_num,by omega,Hq,uM⟩
      case measure=>simp[intOf];omega
    .rw[if_neg h2,ry]at bN;have eC:=aa (show wr.ownsRow (r4+1) 3 1 aC (pC nr (i+1)).length (A6 (pC nr (i+1)))by rw[bN,<-hm];exact HO.out);have b2:((k:Int)==2)=false:=by simp;omega
     have b3:((k:Int)==3)=false:=by simp;omega
     clear bN hm h2 oI;go_wp2;go_round;case rel=>exact⟨i+1,_,J,by go_num,by omega,G,eC⟩
     case measure=>simp[intOf];omega
   .have Ce:i=4:=by omega
    rw[Ce,ah5 Zx.out]at HO;have uE:¬(i:Int)<4:=by omega
    clear Ce hi am;obtain⟨oa,cap,hL,q1,q2,q3⟩:=abl HO.out;subst hL;have aZ:=G.out.ci;have eV:=G.out.row;rw[ln.out]at eV;have c0:wr.cell? ⟨r4,0,ab⟩=U (I R (k0:Nat)):=aT _ _ 0 _ _ _ eV;have c1:wr.cell? ⟨r4,1,ab⟩=U (I R (k1:Nat)):=aT _ _ 1 _ _ _ eV;have c2:wr.cell? ⟨r4,2,ab⟩=U (I R (k2:Nat)):=aT _ _ 2 _ _ _ eV;have c3:wr.cell? ⟨r4,3,ab⟩=U (I R (k3:Nat)):=aT _ _ 3 _ _ _ eV;obtain⟨⟨p0,p1,p2,p3⟩,g0,g1,g2,g3⟩:=Xs aZ;obtain⟨bu,hN⟩:=af (bx nr).length;have CE:=aa q3;rw[<-hN]at q1⊢;have HN:=aa hN;clear hN q3;go_wp2_with fail;go_region;all_goals rw[NJ aZ,<-ln.out];go_wp2;refine ba (v:=az #[ak oa bu cap,aw (ra nr)]) (ajr J _ (wr.setRow (w.heap.size+1) (ra nr)).drew (w.heap.size+1) (ra nr) _ J J J (aV wr _ _ _ _ _ aZ)) J ⟨⟨oa,cap,by rw[HN.out],by rw[<-HN.out];exact q1,q2,?_⟩,(below_setRow G.out.below (by omega) _).drew⟩;have cE:=Dp (r:=w.heap.size+1) (V:=(wr.setRow (w.heap.size+1) (ra nr)).drew) HO.out ⟨J,J,J,by show _<=(wr.setRow _ _).heap.size;rw[iz];exact aA _,fun k _ u=>ij wr _ k _ u⟩ (by have:=G.out.le;omega);obtain⟨oa',Nf,Xv,_,_,q3⟩:=abl cE;simp only[Value.slice.injEq]at Xv;obtain⟨rfl,_,rfl⟩:=Xv;exact q3.cx (by have:=G.out.le;omega)
theorem aox(D:MB)(m:MS)(k:Nat):D.W.grownBy (ap_ D m k) (U D.g):=⟨J,J,J,by show _<=(D.W.setRow D.g _).heap.size;rw[iz];exact aA _,fun j _ u=>ij D.W D.g j _ (fun e=>u (by rw[e]))⟩
theorem sU{fn:FuncId}{args:Nat->Array ag}{g:Nat}{m m':MS}{v:ag}{W:ac}(hM:fp g m W)(h:∀D:MB,ap ae fn (args D.g) (ap_ D m 0) fun e w'=>e=aq v/\∃k',w'=ap_ D m' k'):ap ae fn (args g) W fun e w'=>e=aq v/\fp g m' w'/\W.grownBy w' (U g):=by have q:=h ⟨W,g,m,hM⟩;rw[<-Xz hM]at q;refine q.mono ?_;rintro e w'⟨he,k',hw⟩;subst hw;exact⟨he,aoU _ _ _,aox ⟨W,g,m,hM⟩ m' k'⟩
theorem afI{g:Nat}{m:MS}{W:ac}(hM:fp g m W)(a:Nat):ap ae 234 #[av (U ⟨g,0,ab⟩),I ah a] W fun e w'=>(∃v,e=aq v)/\fp g (jk m a) w'/\W.grownBy w' (U g):=by
 unfold jk;by_cases h:8<=a/64/\a/64<12/\a%64=0/\m.rd (a/64)=true;.rw[if_pos h];have q:=sU (args:=fun g=>#[av (U ⟨g,0,ab⟩),I ah ((a/64*64:Nat):Int)]) hM fun D=>akn D m 0 (a/64) h.1 h.2.1 h.2.2.2;rw[show a/64*64=a by omega]at q;exact q.mono fun e w'⟨he,h2⟩=>⟨⟨_,he⟩,h2⟩
 .rw[if_neg h];have q:=sU (args:=fun g=>#[av (U ⟨g,0,ab⟩),I ah (a:Int)]) hM fun D=>am2 D m 0 a fun n h8 eL L he=>h ⟨by omega,by omega,by omega,by rw[show a/64=n by omega];exact L⟩;exact q.mono fun e w'⟨he,h2⟩=>⟨⟨_,he⟩,h2⟩
theorem adK{g:Nat}{m:MS}{W:ac}(hM:fp g m W)(n:Int)(b:Bool):ap ae 97 #[av (U ⟨g,0,ab⟩),I R n,aH b] W fun e w'=>e=aq (cj (jG n b m).2)/\fp g (jG n b m).1 w'/\W.grownBy w' (U g):=by
 unfold jG;by_cases h:0<=n/\n<8;.rw[if_pos h];have q:=sU (args:=fun g=>#[av (U ⟨g,0,ab⟩),I R ((n.toNat:Nat):Int),aH b]) hM fun D=>ac6 D m 0 n.toNat (by omega) b;rw[acD h.1]at q;exact q
 .rw[if_neg h];exact sU (args:=fun g=>#[av (U ⟨g,0,ab⟩),I R n,aH b]) hM fun D=>(agY D m 0 n h b).mono fun e w'⟨he,hw⟩=>⟨he,0,hw⟩
theorem anu{g:Nat}{m:MS}{W:ac}(hM:fp g m W)(n:Int):ap ae 98 #[av (U ⟨g,0,ab⟩),I R n] W fun e w'=>e=aq (cj (jK n m).2)/\fp g (jK n m).1 w'/\W.grownBy w' (U g):=by
 unfold jK;by_cases h:0<=n/\n<8
 .cases L:m.rd n.toNat with
   |true=>rw[if_pos ⟨h.1,h.2,J⟩];have q:=sU (args:=fun g=>#[av (U ⟨g,0,ab⟩),I R ((n.toNat:Nat):Int)]) hM fun D=>aml D m 0 n.toNat (by omega) L;rw[acD h.1]at q;exact q
   |false=>rw[if_neg (fun h=>by cases h.2.2)];have q:=sU (args:=fun g=>#[av (U ⟨g,0,ab⟩),I R ((n.toNat:Nat):Int)]) hM fun D=>af' D m 0 n.toNat (by omega) L;rw[acD h.1]at q;exact q
 .rw[if_neg (fun h'=>h ⟨h'.1,h'.2.1⟩)];exact sU (args:=fun g=>#[av (U ⟨g,0,ab⟩),I R n]) hM fun D=>ajq D m 0 n h
theorem am'{g:Nat}{m:MS}{W:ac}(hM:fp g m W)(a:Nat)(s:ByteArray)(ha:a<18446744073709551616)(F:s.size<=1000):ap ae 99 #[av (U ⟨g,0,ab⟩),I ah a,ad s] W fun e w'=>e=aq (cj (jw a s m).2)/\fp g (jw a s m).1 w'/\W.grownBy w' (U g):=by
 unfold jw;by_cases h:∀i,i<s.size->qR m (ch a i);.rw[if_pos h];exact sU (args:=fun g=>#[av (U ⟨g,0,ab⟩),I ah a,ad s]) hM fun D=>alM D m 0 a s ha (by omega) h
 .rw[if_neg h];exact sU (args:=fun g=>#[av (U ⟨g,0,ab⟩),I ah a,ad s]) hM fun D=>ajb D m 0 a s (by omega) (by apply pj;intro H;exact h fun i hi=>pj fun hg=>H ⟨i,hi,hg⟩)
theorem ank{g:Nat}{m:MS}{W:ac}(hM:fp g m W){B:Nat}(N:kW m=U B)(s:ByteArray)(F:s.size<=64):ap ae 231 #[av (U ⟨g,0,ab⟩),ad s] W fun e w'=>e=aq (az #[I ah ((B*64:Nat):Int), .nilIface])/\fp g (jI m B s.data.toList) w'/\W.grownBy w' (U g):=by obtain⟨q,h2,h3,h4⟩:=LL N;exact sU (args:=fun g=>#[av (U ⟨g,0,ab⟩),ad s]) hM fun D=>agb D m 0 B s F q h2 h4 h3
theorem aeG{g:Nat}{m:MS}{W:ac}(hM:fp g m W)(N:kW m=ab)(s:ByteArray)(F:s.size<=64):ap ae 231 #[av (U ⟨g,0,ab⟩),ad s] W fun e w'=>e=aq (az #[I ah 0,b8 43 (I R 9)])/\fp g m w'/\W.grownBy w' (U g):=sU (args:=fun g=>#[av (U ⟨g,0,ab⟩),ad s]) hM fun D=>ami D m 0 s F (U_ N)
def C5:Array ag:=#[I R 0,I aj 0,I aj 0,I ah 0,I ah 0,I ah 0,I ah 0,I ah 0,I ah 0,I ah 0,I ah 0,aH false,aH false,aH false,aH false,I R 0,ad ⟨#[]⟩,ad ⟨#[]⟩,I aj 0,I R 0,ad ⟨#[]⟩,I aj 0,I R 0,ad ⟨#[]⟩,I aj 0,I R 0,ad ⟨#[]⟩,I aj 0,I R 0]
theorem Qu:∀j,j<29->C5.toList.getD j undef=ef (fJ 0) j:=by intro j hj;match j,hj with|0,_=>rfl|1,_=>rfl|2,_=>rfl|3,_=>rfl|4,_=>rfl|5,_=>rfl|6,_=>rfl|7,_=>rfl|8,_=>rfl|9,_=>rfl|10,_=>rfl|11,_=>rfl|12,_=>rfl|13,_=>rfl|14,_=>rfl|15,_=>rfl|16,_=>rfl|17,_=>rfl|18,_=>rfl|19,_=>rfl|20,_=>rfl|21,_=>rfl|22,_=>rfl|23,_=>rfl|24,_=>rfl|25,_=>rfl|26,_=>rfl|27,_=>rfl|28,_=>rfl|j+29,hj=>omega
theorem Dr:C5.all (·.oneCell')=true:=by simp[C5,fG]
def ga(f:Nat->ag)(o:Nat)(l:List ag):Nat->ag:=fun i=>if o<=i/\i<o+l.length then l.getD (i-o) undef else f i
theorem SR(g:Nat)(ty:c6):∀(l:List ag)(o:Nat)(f:Nat->ag)(W:ac),W.heap[g]?=U (.cells (VA 92 f) ty (0,0))->W.setCells g o l=W.setRow g (VA 92 (ga f o l))
 |[],o,f,W,h=>by rw[show ga f o []=f by funext i;unfold ga;rw[if_neg (by simp only[nI];omega)]];exact(setRow_self W g _ _ _ h).symm
 |x::r,o,f,W,h=>by
  rw[FP,cJ _ _ _ _ _ _ _ h,qu,SR g ty r (o+1) (e0 f o x) _ (aV _ _ _ _ _ _ h),l' _ _ _ _ _ _ h];congr 2;funext i;unfold ga e0;by_cases q:i=o;.subst q;rw[if_neg (by omega),if_pos J,if_pos (by simp),zd];rfl
  .by_cases h2:o+1<=i/\i<o+1+r.length;.rw[if_pos h2,if_pos (by rw[fh];omega),show i-o=(i-(o+1))+1 by omega,N3]
   .rw[if_neg h2,if_neg q,if_neg (by rw[fh];omega)]
theorem E5(g r:Nat)(bo:r≠g):∀(l:List ag)(o:Nat)(W:ac),(W.setCells g o l).heap[r]?=W.heap[r]?|[],_,_=>J|x::l,o,W=>by rw[FP,E5 g r bo l (o+1)];exact mV W ⟨g,o,ab⟩ x r bo
theorem Rt(g:Nat):∀(l:List ag)(o:Nat)(W:ac),(W.setCells g o l).heap.size=W.heap.size/\(W.setCells g o l).os=W.os/\(W.setCells g o l).tape=W.tape/\(W.setCells g o l).output=W.output|[],_,_=>⟨J,J,J,J⟩|x::l,o,W=>by rw[FP];obtain⟨q,h2,h3,h4⟩:=Rt g l (o+1) (W.setCell ⟨g,o,ab⟩ x);exact⟨q.trans (by simp[World.setCell]),h2,h3,h4⟩
theorem Fr.cells{g O:Nat}(y:ag)(W:ac)(o:Nat)(l:List ag):Fr g O y y W (W.setCells g o l):=by obtain⟨q,h2,h3,h4⟩:=Rt g l o W;exact⟨h2,h3,h4,by rw[q];exact aA _,fun k _ z _ _=>E5 g k z l o W,fun _ h=> .inl h⟩
theorem WX.Br{g O:Nat}{P:PV}{s:WS}{y:ag}{W:ac}(h:WX g O P s y W)(n:Nat)(u:n<3)(c:Array ag)(H:c.toList.length=29)(t:TH)(ht:∀j,j<29->c.toList.getD j undef=ef t j):WX g O P (s.put n t) y (W.setCells g (4+n*29) c.toList):=by
 rw[SR g 116 c.toList (4+n*29) _ W h.row];refine h.F_ _ (Rd P O s.T y n u t _ (fun j hj=>?_) fun i hi=>?_);.unfold ga;rw[if_pos (by rw[H];omega),show 4+n*29+j-(4+n*29)=j by omega];exact ht j hj
 .unfold ga;rw[if_neg];rw[H];intro hh;exact hi (i-(4+n*29)) (by omega) (by omega)
theorem L5(s:WS)(n:Nat)(t ay:TH):(s.put n t).put n ay=s.put n ay:=by unfold WS.put;simp only[BI]
theorem iV{P:jf}{md:Region.Mode}{a_:Array bz}{aE:eK->Act->ac->Prop}{b6:Nat}{gz:Array Bool}{a:Act}{w:ac}{i j:Nat}{o p:bz}(L:Region.ready md a_ gz=[i,j])(ho:a_.toList[i]?=U o)(hg:o.guard=ab)(hp:a_.toList[j]?=U p)(SA:p.guard=ab)(h:∀K:Act->ac->Prop,(∀a w,wpAny P md a_ aE b6 (gz.setIfInBounds i true) a w->K a w)->lk P o a w K aE)(h2:∀K:Act->ac->Prop,(∀a w,wpAny P md a_ aE b6 (gz.setIfInBounds j true) a w->K a w)->lk P p a w K aE):wpAny P md a_ aE (b6+1) gz a w:=by
 refine wpAny_ready L (by simp) ?_;refine AllReady.cons (o:=o) (by simpa using ho) (fun K A=>?_) (AllReady.cons (o:=p) (by simpa using hp) (fun K A=>?_) AllReady.nil)
 .have hw:sF o (yielded a_ a.tmps)=true:=by simp[sF,hg]
  rw[if_pos hw];exact h K A
 .have hw:sF p (yielded a_ a.tmps)=true:=by simp[sF,SA]
  rw[if_pos hw];exact h2 K A
theorem NC:∃i,ae.info? 103=U i/\i.zero=U (aw (od 0 0 oC cb 0))/\i.size=21/\i.bytes=192:=by
 have hz:(ae.info? 103).map (·.zero)=U (U (aw (od 0 0 oC cb 0))):=by kernel_rfl
 have F:(ae.info? 103).map (·.size)=U 21:=by kernel_rfl
 have hb:(ae.info? 103).map (·.bytes)=U 192:=by kernel_rfl
 cases N:ae.info? 103 with
  |none=>rw[N]at F;simp at F
  |some i=>rw[N]at hz F hb;simp at hz F hb;exact⟨i,J,hz,F,hb⟩
theorem Al:(ae.info? 113).map (·.size)=U 29:=by kernel_rfl
structure EX(g O:Nat)(P:PV)(s:WS)(y:ag)(r2:Nat)(c:Array ag)(X:ac):Prop where
 bI:WX g O P s y X
 box:X.heap[r2]?=U (.cells c 103 (0,0))
 ne:r2≠g/\r2≠O/\y.ownBlock≠U r2
 cF:P.cF<=r2
theorem EX.au{g O:Nat}{P:PV}{s:WS}{y:ag}{r2:Nat}{c:Array ag}{X Y:ac}(h:EX g O P s y r2 c X)(hb:aD X.heap.size X Y):EX g O P s y r2 c Y:=⟨h.bI.au hb,(hb.block _ (bM.1 h.box).1).trans h.box,h.ne,h.cF⟩
theorem EX.me{g O:Nat}{P:PV}{s:WS}{y:ag}{r2:Nat}{c:Array ag}{X Y:ac}(h:EX g O P s y r2 c X){m:MS}(hm:fp O m Y)(hg:X.grownBy Y (U O)):EX g O P {s with mem:=m} y r2 c Y:=⟨h.bI.me hm hg,(hg.block _ (bM.1 h.box).1 (fun e=>h.ne.2.1 (dG e))).trans h.box,h.ne,h.cF⟩
theorem EX.agu{g O:Nat}{P:PV}{s:WS}{y:ag}{r2:Nat}{c:Array ag}{X:ac}(h:EX g O P s y r2 c X)(wm:Array ag):EX g O P s y r2 wm (X.setRow r2 wm):=⟨h.bI.GO (Fg X r2 wm) h.ne.1 h.ne.2.1 h.ne.2.2 h.cF,aV _ _ _ _ _ _ h.box,h.ne,h.cF⟩
theorem Fr.GO{g O:Nat}{y:ag}{W X:ac}(h:Fr g O y y W X){r:Nat}(c:Array ag)(L:W.heap.size<=r):Fr g O y y W (X.setRow r c):=⟨h.os,h.tape,h.output,by rw[iz];exact h.size,fun k z q h2 h3=>(ij X r k c (by omega)).trans (h.block k z q h2 h3),h.CP⟩
theorem Fr.Q2{g O:Nat}{P:PV}{s:WS}{y:ag}{X w2:ac}{o:Obj}{gg n cap:Nat}(_h:WX g O P s y X)(v:ag)(hg:(X.alloc o).grownBy w2 y.ownBlock)(bE:y.ownBlock=U gg\/gg=X.heap.size+1):Fr g O y (ak (U ⟨gg,0,ab⟩) n cap) X (w2.setCell ⟨g,91,ab⟩ v):=⟨hg.os,hg.tape,hg.output,bL (bL (ai X o).size hg.size) (b4.set g 91 w2 v).size,fun k z q h2 h3=>((mV w2 ⟨g,91,ab⟩ v k q).trans (hg.block k (by rw[bA];omega) (fun e=>h3 e.symm))).trans ((ai X o).block k z),fun k z=>by
 simp only[AV,cm]at z;subst z;rcases bE with h|h;.exact .inl h
 .exact .inr (by omega)⟩
theorem QY(aF cg:Int)(k:KL)(v:VS)(aU:Int):∀ay∈(od aF cg k v aU).toList,ay.oneCell'=true:=by intro ay hu;simp only[od,kh,xc,or_false]at hu;rcases hu with rfl|rfl|rfl|rfl|rfl|rfl|rfl|rfl|rfl|rfl|rfl|rfl|rfl|rfl|rfl|rfl|rfl|rfl|rfl|rfl|rfl<;>rfl
theorem Nu:(ae.info? 103).map (·.size)=U 21:=by kernel_rfl
theorem akC{W:ac}{r:Nat}{aF aU:Int}{v:VS}(n:Int)(k:KL)(h:W.heap[r]?=U (.cells (od aF 0 oC v aU) 103 (0,0))):((((((W.setCell ⟨r,1,ab⟩ (I R n)).setCell ⟨r,2,ab⟩ (I aj k.ej)).setCell ⟨r,3,ab⟩ (I aj k.nr)).setCell ⟨r,4,ab⟩ (I ah k.a0)).setCell ⟨r,5,ab⟩ (I ah k.bR)).setCell ⟨r,6,ab⟩ (I ah k.a2)).setCell ⟨r,7,ab⟩ (I ah k.a3)=W.setRow r (od aF n k v aU):=by rw[cJ _ _ 1 _ _ _ _ h,cJ _ _ 2 _ _ _ _ (aV _ _ _ _ _ _ h),l' _ _ _ _ _ _ h,cJ _ _ 3 _ _ _ _ (aV _ _ _ _ _ _ h),l' _ _ _ _ _ _ h,cJ _ _ 4 _ _ _ _ (aV _ _ _ _ _ _ h),l' _ _ _ _ _ _ h,cJ _ _ 5 _ _ _ _ (aV _ _ _ _ _ _ h),l' _ _ _ _ _ _ h,cJ _ _ 6 _ _ _ _ (aV _ _ _ _ _ _ h),l' _ _ _ _ _ _ h,cJ _ _ 7 _ _ _ _ (aV _ _ _ _ _ _ h),l' _ _ _ _ _ _ h];simp only[od,LT]
theorem YK(aF cg:Int)(k:KL)(v:VS)(aU:Int)(w:ac):(Instr.buildSlice 78 1 #[(0,aw (od aF cg k v aU))]).run ae w= .ok (ak (U ⟨w.heap.size,0,ab⟩) 1 1) (w.alloc (.cells (od aF cg k v aU) 103)):=by obtain⟨eq,d8,dh,dD,dz⟩:=NC;exact run_buildSlice w 78 103 1 _ _ eq _ underlying78 d8 dh (by rw[dD];decide) (by rw[dD];decide) (by rw[dD];kernel_rfl)
theorem vk{o:bz}{a:Act}{w:ac}{K:Act->ac->Prop}{aE:eK->Act->ac->Prop}(x:Tmp){c:Array ag}(ho:o.op= .buildSlice 78 1 #[(0, .tmp x)])(hx:a.eval (.tmp x)=aw c)(hb:∀W,(Instr.buildSlice 78 1 #[(0,aw c)]).run ae W= .ok (ak (U ⟨W.heap.size,0,ab⟩) 1 1) (W.alloc (.cells c 103)))(h:K (a.put o.dst (ak (U ⟨w.heap.size,0,ab⟩) 1 1)) (w.alloc (.cells c 103))):o.wp ae a w K aE:=by
 have hp:(#[(0,Operand.tmp x)]:Array (Nat×gr)).map (fun(i,x)=>(i,a.eval x))=#[(0,aw c)]:=by simp[hx]
 unfold lk execOp;simp only[ho,xl,hp,hb,tW];exact h
set_option maxHeartbeats 4000000 in set_option maxRecDepth 100000 in theorem RU{g O:Nat}{P:PV}{s:WS}{y:ag}{W:ac}(n:Nat)(u:n<3)(aF:Nat)(aU:Int)(v:VS)(h:WX g O P s y W)(cQ:s.aX.length<=1000000):ap ae 195 #[av (U ⟨g,0,ab⟩),I R n,aw (od aF 0 oC v aU)] W fun e w'=>e=aq (az #[])/\∃a8,WX g O P (ec n aF aU v s) a8 w'/\Fr g O y a8 W w':=by
 have hs:=h.gh;have pK:=h.sR;have lT:∀k,y.ownBlock=U k->k<W.heap.size:=fun k z=>(h.cW.lt k z).2;obtain⟨t,ht⟩:=af (s.T n);obtain⟨c0,qP⟩:=af (od aF 0 oC v aU);obtain⟨c1,hC⟩:=af (od aF n t.call v aU);have HE:=aa (show EX g O P s y W.heap.size c0 (W.alloc (.cells c0 103))from⟨h.au (ai _ _),a7 _ _,⟨by omega,by omega,fun e=>by have:=lT _ e;omega⟩,h.cF⟩);have Uw:=aa (show Fr g O y y W (W.alloc (.cells c0 103))from Fr.bk y (ai _ _));obtain⟨r2,dg⟩:=af W.heap.size;have HT:=aa ht;have HC0:=aa qP;have eO:=aa hC;have lZ:=fun W=>YK aF n t.call v aU W;rw[<-hC]at lZ;rw[<-qP];have HH:=aa h;have j1:(0:Int)<=n:=by omega
 have j2:(n:Int)<3:=by omega
 clear h ht lT hs pK qP hC;go_enter func195,ntmps195;go_wp2;rw[<-dg]at HE⊢;have qg:=aa dg;clear dg;go_loopw[13](fun aL w'=>∃i:Nat,i<=4/\aL=I R i/\Hid (EX g O P {s with mem:=k6 t s.mem i} y r2 c0 w')/\Hid (Fr g O y y W w'))(fun aL _=>4-(intOf aL).toNat);case atStart=>exact⟨0,by omega,J,HE,Uw⟩
 case round=>
  obtain⟨i,hi,rfl,G,HF⟩:=hrel;clear HE Uw;by_cases am:i<4
  .have cs:wr.cell? ⟨g,4+n*29+11+i,ab⟩=U (aH (t.bV i)):=by have:=G.out.bI.th n (11+i) u (by omega);rw[PI _ _ am]at this;rw[HT.out,oy];exact this
   have dj:wr.cell? ⟨g,4+n*29+7+i,ab⟩=U (I ah (t.args i)):=by have:=G.out.bI.th n (7+i) u (by omega);rw[GX _ _ am]at this;rw[HT.out,oy];exact this
   have cp:=G.out.bI.ptr;have k1:(0:Int)<=i:=by omega
   have k2:(i:Int)<4:=by omega
   have bN:k6 t s.mem (i+1)=if t.bV i=true then jk (k6 t s.mem i) (t.args i)else k6 t s.mem i:=J;obtain⟨a,ha⟩:=af (t.args i);rw[<-ha]at dj bN;cases F:t.bV i with
    |true=>
     rw[F]at cs bN;rw[if_pos J]at bN;have fz:=aa bN;replace G:=aa (G.out.au (aS _ wr).drew);replace HF:=aa (HF.out.trans (Fr.bk y (aS _ wr).drew));have HM:=fun X(h:fp O (k6 t s.mem i) X)=>afI h a;clear bN F ha;go_wp2_with fail;go_region_law(first|(go_simp;go_at_call 234;refine(HM _ G.out.bI.mem).mono ?_;rintro e w1⟨⟨v1,rfl⟩,nu,sM⟩;have HD:=aa (G.out.me nu sM);have HG:=aa (HF.out.trans (Fr.grown y sM (.inr J)));clear nu sM));all_goals
      rw[<-fz.out]at HD;go_wp2;go_round;case rel=>first|exact⟨i+1,by omega,by go_num,HD,HG⟩|exact⟨i+1,by omega,by omega,HD⟩|exact⟨i+1,by omega,by omega,HD,HG⟩
      case measure=>simp[intOf];omega
    |false=>
     rw[F]at cs bN;rw[if_neg (by decide)]at bN;rw[<-bN]at G;clear bN F ha;go_wp2;go_round;case rel=>exact⟨i+1,by omega,by go_num,G,HF⟩
     case measure=>simp[intOf];omega
  .have Ce:i=4:=by omega
   rw[Ce]at G;have uE:¬(i:Int)<4:=by omega
   clear Ce hi am;obtain⟨s1,c9⟩:∃s1:WS,s1={s with mem:=k6 t s.mem 4}:=⟨_,J⟩;rw[<-c9]at G;have pI:=aa c9;have hT1:s1.T n=t:=by rw[c9,HT.out]
   have wf:s1.aX=s.aX:=by rw[c9]
   clear c9;have x1:=G.out.bI.th n 1 u (by omega);have x2:=G.out.bI.th n 2 u (by omega);have x3:=G.out.bI.th n 3 u (by omega);have x4:=G.out.bI.th n 4 u (by omega);have x5:=G.out.bI.th n 5 u (by omega);have x6:=G.out.bI.th n 6 u (by omega);rw[hT1]at x1 x2 x3 x4 x5 x6;rw[(eP t).1]at x1;rw[(eP t).2.1]at x2;rw[(eP t).2.2.1]at x3;rw[(eP t).2.2.2.1]at x4;rw[(eP t).2.2.2.2.1]at x5;rw[(eP t).2.2.2.2.2]at x6;have nZ:=G.out.box;rw[HC0.out]at nZ;have b1:wr.cell? ⟨r2,1,ab⟩=U (I R 0):=aT _ _ 1 _ _ _ nZ;have b2:wr.cell? ⟨r2,2,ab⟩=U (I aj 0):=aT _ _ 2 _ _ _ nZ;have b3:wr.cell? ⟨r2,3,ab⟩=U (I aj 0):=aT _ _ 3 _ _ _ nZ;have rW:wr.cell? ⟨r2,4,ab⟩=U (I ah 0):=aT _ _ 4 _ _ _ nZ;have pz:wr.cell? ⟨r2,5,ab⟩=U (I ah 0):=aT _ _ 5 _ _ _ nZ;have zv:wr.cell? ⟨r2,6,ab⟩=U (I ah 0):=aT _ _ 6 _ _ _ nZ;have WI:wr.cell? ⟨r2,7,ab⟩=U (I ah 0):=aT _ _ 7 _ _ _ nZ;have f1:=cy wr r2 1 _ _ nZ;have f2:=cy wr r2 2 _ _ nZ;have f3:=cy wr r2 3 _ _ nZ;have f4:=cy wr r2 4 _ _ nZ;have f5:=cy wr r2 5 _ _ nZ;have f6:=cy wr r2 6 _ _ nZ;have f7:=cy wr r2 7 _ _ nZ;have bo:r2≠g:=G.out.ne.1;have YD:¬g=r2:=fun e=>bo e.symm;have Cw:∀j,(wr.setCell ⟨r2,1,ab⟩ (I R n)).cell? ⟨g,j,ab⟩=wr.cell? ⟨g,j,ab⟩:=fun j=>dt (mV wr ⟨r2,1,ab⟩ _ g YD) j;have y1:=(Cw (4+n*29+1)).trans x1;have y2:=(Cw (4+n*29+2)).trans x2;have y3:=(Cw (4+n*29+3)).trans x3;have y4:=(Cw (4+n*29+4)).trans x4;have y5:=(Cw (4+n*29+5)).trans x5;have Dt:=(Cw (4+n*29+6)).trans x6;have iq:=aa (akC n t.call nZ);have jY:=aa (G.out.agu c1);have c4:=aa (HF.out.GO c1 (by rw[<-qg.out];exact aA r2));clear Cw nZ;go_wp2_with fail;go_region;rw[iq.out,<-eO.out];clear x1 x2 x3 x4 x5 x6 y1 y2 y3 y4 y5 Dt b1 b2 b3 rW pz zv WI f1 f2 f3 f4 f5 f6 f7 bo YD G HF iq;go_wp2_with fail;refine IF (fun X=>Hid (EX g O P s1 y r2 c1 X)/\Hid (Fr g O y y W X)) ⟨aa (jY.out.au (aS _ _).drew),aa (c4.out.trans (Fr.bk y (aS _ _).drew))⟩ ?_;clear jY c4;rintro X⟨G,HF⟩;have Ba:c1.size=21:=by rw[eO.out];rfl
   have oE:=aa (show∀ay∈c1.toList,ay.oneCell'=true by rw[eO.out];exact QY _ _ _ _ _);have eS:=aa (show c1.toList.length=1*21 by rw[Array.length_toList,Ba]);have Ap:(loadVar 103 ⟨r2,0,ab⟩).run ae X.drew= .ok (aw c1) X.drew:=tT (P:=ae) X.drew r2 103 103 c1 (0,0) _ G.out.box underlying103 J (by rw[Ba];exact Nu);have m7:(Instr.loadAt 103 (av (U ⟨r2,0,ab⟩))).run ae X.drew= .ok (aw c1) X.drew:=by simp only[Instr.loadAt,Instr.sureAddr,xl,Sem.run_pure,tW,Ap]
   have I_:X.cell? ⟨g,91,ab⟩=U y:=G.out.bI.D4;have vn:X.drew.cell? ⟨g,91,ab⟩=U y:=I_;have LM:=ao (ai X (.cells c1 103)) I_;have zn:(X.alloc (.cells c1 103)).drew.cell? ⟨g,91,ab⟩=U y:=LM;obtain⟨eq,d8,dh,dD,dz⟩:=NC;obtain⟨aC,hL⟩:=af s1.aX.length;have hLl:aC<=1000000:=by rw[hL,wf];exact cQ
   have HL:=aa hL;have ur:=aa (show X.ownsRow 0 103 21 y aC (gk s1.aX)by rw[hL];exact G.out.bI.cW);have tm:g<X.heap.size:=G.out.bI.gh;have Ie:X.drew.heap[r2]?=U (.cells c1 103 (0,0)):=G.out.box;have lc:=aa (show(X.alloc (.cells c1 103)).drew.ownsRow 0 103 21 y aC (gk s1.aX)from ur.out.alloc _);have mX:=aa (show(X.alloc (.cells c1 103)).drew.heap[X.heap.size]?=U (.cells c1 103 (0,0))from a7 X _);clear hL;have zM:(X.alloc (.cells c1 103)).drew.heap[r2]?=U (.cells c1 103 (0,0)):=((ai X (.cells c1 103)).block r2 (bM.1 G.out.box).1).trans G.out.box;refine mj (by kernel_rfl) ?_;change wpAny _ _ _ _ _ _ _ (ll _);refine aW 0 (U 41) (av (U ⟨g,0,ab⟩)) ?_;try simp only[ar,LT]
   refine aW 1 (U 42) (av (U ⟨g,0,ab⟩)) ?_;try simp only[ar,LT]
   refine aW 2 (U 43) (av (U ⟨g,0,ab⟩)) ?_;try simp only[ar,LT]
   refine aW 3 (U 44) (av (U ⟨g,91,ab⟩)) ?_;try simp only[ar,LT]
   refine iV (i:=4) (j:=5) (by kernel_rfl) J J J J (fun K A=>?_) (fun K A=>?_)
   .go_simp;refine A _ _ ?_;clear A K;try simp only[ar,LT]
    refine aR 5 fun K A=>?_;refine C0 103 (.tmp 5) J r2 J 103 c1 (0,0) _ (by first|exact Ie|exact zM) underlying103 J (by rw[Ba];exact Nu) ?_;refine A _ _ ?_;clear A K;try simp only[ar,LT]
    refine aR 6 fun K A=>?_;refine vk 46 J J lZ ?_;refine A _ _ ?_;clear A K;try simp only[ar,LT]
    refine aR 7 fun K A=>?_;refine xn _ _ _ _ J 0 103 eq _ 21 192 underlying78 d8 dh dD dz J (by omega) y aC (gk s1.aX) J lc.out ⟨X.heap.size,0,ab⟩ 1 1 c1.toList J eS.out (lS mX.out) oE.out (by omega) (by simp only[maxLen];omega) (by omega) (by omega) (X.heap.size+1) (by show(X.alloc _).heap.size=_;rw[bA]) ?_;intro gg bS w2 du bU bE d6;have HG:=aa (bQ du (bQ bU (bQ bE d6)));have jT:w2.cell? ⟨g,91,ab⟩=U y:=(dt (bU.block g (by show g<(X.alloc _).heap.size;rw[bA];exact AW tm) (fun e=>(G.out.bI.nl g e.symm).1 J)) 91).trans zn;have j7:w2.frozen? ⟨g,91,ab⟩=false:=cy _ _ 91 _ _ ((bU.block g (by show g<(X.alloc _).heap.size;rw[bA];exact AW tm) (fun e=>(G.out.bI.nl g e.symm).1 J)).trans (((ai X (.cells c1 103)).block g tm).trans G.out.bI.row));clear du bU bE d6;refine A _ _ ?_;clear A K;try simp only[ar,LT]
    refine aR 8 fun K A=>?_;go_simp;refine A _ _ ?_;clear A K;try simp only[ar,LT]
    refine aR 9 fun K A=>?_;go_simp;refine A _ _ ?_;clear A K;try simp only[ar,LT]
    refine aR 10 fun K A=>?_;go_simp;refine A _ _ ?_;clear A K;try simp only[ar]
    refine dH (by kernel_rfl) ?_ _;have q_:=aa (WX.Jz (s:=s1) (l:=s1.aX++[⟨aF,n,t.call,v,aU⟩]) (a8:=ak (U ⟨gg,0,ab⟩) (aC+1) bS) (G.out.bI.au (ai X (.cells c1 103)).drew) HG.out.2.1 (fun k z=>by
     simp only[AV,cm]at z;subst z;rcases HG.out.2.2.1 with h|h;.exact .inl h
     .refine .inr ?_;rw[h];show(X.alloc _).heap.size<=_;rw[bA];exact aA _) (by rw[cl,gH,Lw,<-HL.out,show(gE ⟨aF,n,t.call,v,aU⟩)=c1 from eO.out.symm];exact HG.out.1));have qT:=aa (HF.out.trans (Fr.Q2 (n:=aC+1) (cap:=bS) G.out.bI (ak (U ⟨gg,0,ab⟩) (aC+1) bS) (show(X.alloc (.cells c1 103)).grownBy w2 y.ownBlock from⟨HG.out.2.1.os,HG.out.2.1.tape,HG.out.2.1.output,HG.out.2.1.size,HG.out.2.1.block⟩) HG.out.2.2.1));have dB:(w2.setCell ⟨g,91,ab⟩ (ak (U ⟨gg,0,ab⟩) (aC+1) bS)).heap[r2]?=U (.cells c1 103 (0,0)):=by rw[mV w2 ⟨g,91,ab⟩ _ r2 G.out.ne.1,HG.out.2.1.block r2 (by show r2<(X.alloc _).heap.size;rw[bA];exact AW (bM.1 G.out.box).1) (fun e=>G.out.ne.2.2 e.symm)];exact zM
    obtain⟨a8,uy⟩:=af (ak (U ⟨gg,0,ab⟩) (aC+1) bS);rw[<-uy]at q_ qT dB;rw[<-uy];obtain⟨Y,hY⟩:=af (w2.setCell ⟨g,91,ab⟩ a8);rw[<-hY]at q_ qT dB⊢;have HY:=q_;have la:=qT;have jh:=aa dB;clear hY q_ qT dB uy HG jT j7 I_ vn LM zn lc mX ur Ie zM oE eS lZ Ba d8 dh dD dz;obtain⟨zt,fC⟩:=af C5;have da:=aa fC;have ik:=aa (HY.out.Br n u zt (by rw[fC];rfl) (fJ 0) (fun j hj=>by rw[fC];exact Qu j hj));have gN:=aa (la.out.trans (Fr.cells (g:=g) (O:=O) a8 Y (4+n*29) zt.toList));have kV:(Y.setCells g (4+n*29) zt.toList).cell? ⟨r2,0,ab⟩=U (I R aF):=by refine(dt (E5 g r2 (fun e=>G.out.ne.1 e) zt.toList (4+n*29) Y) 0).trans ?_;rw[aT _ _ 0 _ _ _ jh.out,eO.out];rfl
    clear fC;have lU:=aa (show WS.put ({s1 with aX:=s1.aX++[⟨aF,n,t.call,v,aU⟩]}:WS) n (fJ (if aF=3 then 6 else 0))=ec n aF aU v s by unfold ec WS.put;rw[pI.out,<-HT.out]);by_cases iw:aF=3
    .have k3:(aF:Int)=3:=by omega
     have b3:((aF:Int)==3)=true:=by simpa using k3
     have oG:=aa (ik.out.sk n 6 u);rw[if_pos iw]at lU;have OY:=ik.out.phase n u;have QI:=ik.out.b5 (4+n*29);clear iw;go_wp2_with(first|(refine tS J 113 _ J (U 52) J zt (by rw[da.out];kernel_rfl) ?_)|(refine sK (P:=ae) J 113 _ _ J g (4+n*29) zt J J (by intro j hj;exact⟨by rw[HY.out.cell _ (by have x8:j<29:=(by rw[da.out]at hj;exact hj);omega)];rfl,HY.out.b5 _⟩) (by rw[da.out];exact Al) (by rw[da.out];exact Dr) ?_));go_end0;refine⟨J,a8,?_,gN.out.trans (Fr.set a8 _ _ _)⟩;rw[<-lU.out];have:=oG.out;rwa[jp,L5,show({fJ 0 with phase:=6}:TH)=fJ 6 from J]at this
    .have k3:¬(aF:Int)=3:=by omega
     have b3:((aF:Int)==3)=false:=by simpa using k3
     rw[if_neg iw]at lU;clear iw;go_wp2_with(first|(refine tS J 113 _ J (U 52) J zt (by rw[da.out];kernel_rfl) ?_)|(refine sK (P:=ae) J 113 _ _ J g (4+n*29) zt J J (by intro j hj;exact⟨by rw[HY.out.cell _ (by have x8:j<29:=(by rw[da.out]at hj;exact hj);omega)];rfl,HY.out.b5 _⟩) (by rw[da.out];exact Al) (by rw[da.out];exact Dr) ?_));go_end0;refine⟨J,a8,?_,gN.out⟩;rw[<-lU.out];exact ik.out
   .refine C0 103 (.tmp 5) J r2 J 103 c1 (0,0) _ (by first|exact Ie|exact zM) underlying103 J (by rw[Ba];exact Nu) ?_;refine A _ _ ?_;clear A K;try simp only[ar,LT]
    refine iV (i:=4) (j:=6) (by kernel_rfl) J J J J (fun K A=>?_) (fun K A=>?_)
    .go_simp;refine A _ _ ?_;clear A K;try simp only[ar,LT]
     refine aR 6 fun K A=>?_;refine vk 46 J J lZ ?_;refine A _ _ ?_;clear A K;try simp only[ar,LT]
     refine aR 7 fun K A=>?_;refine xn _ _ _ _ J 0 103 eq _ 21 192 underlying78 d8 dh dD dz J (by omega) y aC (gk s1.aX) J lc.out ⟨X.heap.size,0,ab⟩ 1 1 c1.toList J eS.out (lS mX.out) oE.out (by omega) (by simp only[maxLen];omega) (by omega) (by omega) (X.heap.size+1) (by show(X.alloc _).heap.size=_;rw[bA]) ?_;intro gg bS w2 du bU bE d6;have HG:=aa (bQ du (bQ bU (bQ bE d6)));have jT:w2.cell? ⟨g,91,ab⟩=U y:=(dt (bU.block g (by show g<(X.alloc _).heap.size;rw[bA];exact AW tm) (fun e=>(G.out.bI.nl g e.symm).1 J)) 91).trans zn;have j7:w2.frozen? ⟨g,91,ab⟩=false:=cy _ _ 91 _ _ ((bU.block g (by show g<(X.alloc _).heap.size;rw[bA];exact AW tm) (fun e=>(G.out.bI.nl g e.symm).1 J)).trans (((ai X (.cells c1 103)).block g tm).trans G.out.bI.row));clear du bU bE d6;refine A _ _ ?_;clear A K;try simp only[ar,LT]
     refine aR 8 fun K A=>?_;go_simp;refine A _ _ ?_;clear A K;try simp only[ar,LT]
     refine aR 9 fun K A=>?_;go_simp;refine A _ _ ?_;clear A K;try simp only[ar,LT]
     refine aR 10 fun K A=>?_;go_simp;refine A _ _ ?_;clear A K;try simp only[ar]
     refine dH (by kernel_rfl) ?_ _;have q_:=aa (WX.Jz (s:=s1) (l:=s1.aX++[⟨aF,n,t.call,v,aU⟩]) (a8:=ak (U ⟨gg,0,ab⟩) (aC+1) bS) (G.out.bI.au (ai X (.cells c1 103)).drew) HG.out.2.1 (fun k z=>by
      simp only[AV,cm]at z;subst z;rcases HG.out.2.2.1 with h|h;.exact .inl h
      .refine .inr ?_;rw[h];show(X.alloc _).heap.size<=_;rw[bA];exact aA _) (by rw[cl,gH,Lw,<-HL.out,show(gE ⟨aF,n,t.call,v,aU⟩)=c1 from eO.out.symm];exact HG.out.1));have qT:=aa (HF.out.trans (Fr.Q2 (n:=aC+1) (cap:=bS) G.out.bI (ak (U ⟨gg,0,ab⟩) (aC+1) bS) (show(X.alloc (.cells c1 103)).grownBy w2 y.ownBlock from⟨HG.out.2.1.os,HG.out.2.1.tape,HG.out.2.1.output,HG.out.2.1.size,HG.out.2.1.block⟩) HG.out.2.2.1));have dB:(w2.setCell ⟨g,91,ab⟩ (ak (U ⟨gg,0,ab⟩) (aC+1) bS)).heap[r2]?=U (.cells c1 103 (0,0)):=by rw[mV w2 ⟨g,91,ab⟩ _ r2 G.out.ne.1,HG.out.2.1.block r2 (by show r2<(X.alloc _).heap.size;rw[bA];exact AW (bM.1 G.out.box).1) (fun e=>G.out.ne.2.2 e.symm)];exact zM
     obtain⟨a8,uy⟩:=af (ak (U ⟨gg,0,ab⟩) (aC+1) bS);rw[<-uy]at q_ qT dB;rw[<-uy];obtain⟨Y,hY⟩:=af (w2.setCell ⟨g,91,ab⟩ a8);rw[<-hY]at q_ qT dB⊢;have HY:=q_;have la:=qT;have jh:=aa dB;clear hY q_ qT dB uy HG jT j7 I_ vn LM zn lc mX ur Ie zM oE eS lZ Ba d8 dh dD dz;obtain⟨zt,fC⟩:=af C5;have da:=aa fC;have ik:=aa (HY.out.Br n u zt (by rw[fC];rfl) (fJ 0) (fun j hj=>by rw[fC];exact Qu j hj));have gN:=aa (la.out.trans (Fr.cells (g:=g) (O:=O) a8 Y (4+n*29) zt.toList));have kV:(Y.setCells g (4+n*29) zt.toList).cell? ⟨r2,0,ab⟩=U (I R aF):=by refine(dt (E5 g r2 (fun e=>G.out.ne.1 e) zt.toList (4+n*29) Y) 0).trans ?_;rw[aT _ _ 0 _ _ _ jh.out,eO.out];rfl
     clear fC;have lU:=aa (show WS.put ({s1 with aX:=s1.aX++[⟨aF,n,t.call,v,aU⟩]}:WS) n (fJ (if aF=3 then 6 else 0))=ec n aF aU v s by unfold ec WS.put;rw[pI.out,<-HT.out]);by_cases iw:aF=3
     .have k3:(aF:Int)=3:=by omega
      have b3:((aF:Int)==3)=true:=by simpa using k3
      have oG:=aa (ik.out.sk n 6 u);rw[if_pos iw]at lU;have OY:=ik.out.phase n u;have QI:=ik.out.b5 (4+n*29);clear iw;go_wp2_with(first|(refine tS J 113 _ J (U 52) J zt (by rw[da.out];kernel_rfl) ?_)|(refine sK (P:=ae) J 113 _ _ J g (4+n*29) zt J J (by intro j hj;exact⟨by rw[HY.out.cell _ (by have x8:j<29:=(by rw[da.out]at hj;exact hj);omega)];rfl,HY.out.b5 _⟩) (by rw[da.out];exact Al) (by rw[da.out];exact Dr) ?_));go_end0;refine⟨J,a8,?_,gN.out.trans (Fr.set a8 _ _ _)⟩;rw[<-lU.out];have:=oG.out;rwa[jp,L5,show({fJ 0 with phase:=6}:TH)=fJ 6 from J]at this
     .have k3:¬(aF:Int)=3:=by omega
      have b3:((aF:Int)==3)=false:=by simpa using k3
      rw[if_neg iw]at lU;clear iw;go_wp2_with(first|(refine tS J 113 _ J (U 52) J zt (by rw[da.out];kernel_rfl) ?_)|(refine sK (P:=ae) J 113 _ _ J g (4+n*29) zt J J (by intro j hj;exact⟨by rw[HY.out.cell _ (by have x8:j<29:=(by rw[da.out]at hj;exact hj);omega)];rfl,HY.out.b5 _⟩) (by rw[da.out];exact Al) (by rw[da.out];exact Dr) ?_));go_end0;refine⟨J,a8,?_,gN.out⟩;rw[<-lU.out];exact ik.out
    .refine vk 46 J J lZ ?_;refine A _ _ ?_;clear A K;try simp only[ar,LT]
     refine aR 4 fun K A=>?_;go_simp;refine A _ _ ?_;clear A K;try simp only[ar,LT]
     refine aR 7 fun K A=>?_;refine xn _ _ _ _ J 0 103 eq _ 21 192 underlying78 d8 dh dD dz J (by omega) y aC (gk s1.aX) J lc.out ⟨X.heap.size,0,ab⟩ 1 1 c1.toList J eS.out (lS mX.out) oE.out (by omega) (by simp only[maxLen];omega) (by omega) (by omega) (X.heap.size+1) (by show(X.alloc _).heap.size=_;rw[bA]) ?_;intro gg bS w2 du bU bE d6;have HG:=aa (bQ du (bQ bU (bQ bE d6)));have jT:w2.cell? ⟨g,91,ab⟩=U y:=(dt (bU.block g (by show g<(X.alloc _).heap.size;rw[bA];exact AW tm) (fun e=>(G.out.bI.nl g e.symm).1 J)) 91).trans zn;have j7:w2.frozen? ⟨g,91,ab⟩=false:=cy _ _ 91 _ _ ((bU.block g (by show g<(X.alloc _).heap.size;rw[bA];exact AW tm) (fun e=>(G.out.bI.nl g e.symm).1 J)).trans (((ai X (.cells c1 103)).block g tm).trans G.out.bI.row));clear du bU bE d6;refine A _ _ ?_;clear A K;try simp only[ar,LT]
     refine aR 8 fun K A=>?_;go_simp;refine A _ _ ?_;clear A K;try simp only[ar,LT]
     refine aR 9 fun K A=>?_;go_simp;refine A _ _ ?_;clear A K;try simp only[ar,LT]
     refine aR 10 fun K A=>?_;go_simp;refine A _ _ ?_;clear A K;try simp only[ar]
     refine dH (by kernel_rfl) ?_ _;have q_:=aa (WX.Jz (s:=s1) (l:=s1.aX++[⟨aF,n,t.call,v,aU⟩]) (a8:=ak (U ⟨gg,0,ab⟩) (aC+1) bS) (G.out.bI.au (ai X (.cells c1 103)).drew) HG.out.2.1 (fun k z=>by
      simp only[AV,cm]at z;subst z;rcases HG.out.2.2.1 with h|h;.exact .inl h
      .refine .inr ?_;rw[h];show(X.alloc _).heap.size<=_;rw[bA];exact aA _) (by rw[cl,gH,Lw,<-HL.out,show(gE ⟨aF,n,t.call,v,aU⟩)=c1 from eO.out.symm];exact HG.out.1));have qT:=aa (HF.out.trans (Fr.Q2 (n:=aC+1) (cap:=bS) G.out.bI (ak (U ⟨gg,0,ab⟩) (aC+1) bS) (show(X.alloc (.cells c1 103)).grownBy w2 y.ownBlock from⟨HG.out.2.1.os,HG.out.2.1.tape,HG.out.2.1.output,HG.out.2.1.size,HG.out.2.1.block⟩) HG.out.2.2.1));have dB:(w2.setCell ⟨g,91,ab⟩ (ak (U ⟨gg,0,ab⟩) (aC+1) bS)).heap[r2]?=U (.cells c1 103 (0,0)):=by rw[mV w2 ⟨g,91,ab⟩ _ r2 G.out.ne.1,HG.out.2.1.block r2 (by show r2<(X.alloc _).heap.size;rw[bA];exact AW (bM.1 G.out.box).1) (fun e=>G.out.ne.2.2 e.symm)];exact zM
     obtain⟨a8,uy⟩:=af (ak (U ⟨gg,0,ab⟩) (aC+1) bS);rw[<-uy]at q_ qT dB;rw[<-uy];obtain⟨Y,hY⟩:=af (w2.setCell ⟨g,91,ab⟩ a8);rw[<-hY]at q_ qT dB⊢;have HY:=q_;have la:=qT;have jh:=aa dB;clear hY q_ qT dB uy HG jT j7 I_ vn LM zn lc mX ur Ie zM oE eS lZ Ba d8 dh dD dz;obtain⟨zt,fC⟩:=af C5;have da:=aa fC;have ik:=aa (HY.out.Br n u zt (by rw[fC];rfl) (fJ 0) (fun j hj=>by rw[fC];exact Qu j hj));have gN:=aa (la.out.trans (Fr.cells (g:=g) (O:=O) a8 Y (4+n*29) zt.toList));have kV:(Y.setCells g (4+n*29) zt.toList).cell? ⟨r2,0,ab⟩=U (I R aF):=by refine(dt (E5 g r2 (fun e=>G.out.ne.1 e) zt.toList (4+n*29) Y) 0).trans ?_;rw[aT _ _ 0 _ _ _ jh.out,eO.out];rfl
     clear fC;have lU:=aa (show WS.put ({s1 with aX:=s1.aX++[⟨aF,n,t.call,v,aU⟩]}:WS) n (fJ (if aF=3 then 6 else 0))=ec n aF aU v s by unfold ec WS.put;rw[pI.out,<-HT.out]);by_cases iw:aF=3
     .have k3:(aF:Int)=3:=by omega
      have b3:((aF:Int)==3)=true:=by simpa using k3
      have oG:=aa (ik.out.sk n 6 u);rw[if_pos iw]at lU;have OY:=ik.out.phase n u;have QI:=ik.out.b5 (4+n*29);clear iw;go_wp2_with(first|(refine tS J 113 _ J (U 52) J zt (by rw[da.out];kernel_rfl) ?_)|(refine sK (P:=ae) J 113 _ _ J g (4+n*29) zt J J (by intro j hj;exact⟨by rw[HY.out.cell _ (by have x8:j<29:=(by rw[da.out]at hj;exact hj);omega)];rfl,HY.out.b5 _⟩) (by rw[da.out];exact Al) (by rw[da.out];exact Dr) ?_));go_end0;refine⟨J,a8,?_,gN.out.trans (Fr.set a8 _ _ _)⟩;rw[<-lU.out];have:=oG.out;rwa[jp,L5,show({fJ 0 with phase:=6}:TH)=fJ 6 from J]at this
     .have k3:¬(aF:Int)=3:=by omega
      have b3:((aF:Int)==3)=false:=by simpa using k3
      rw[if_neg iw]at lU;clear iw;go_wp2_with(first|(refine tS J 113 _ J (U 52) J zt (by rw[da.out];kernel_rfl) ?_)|(refine sK (P:=ae) J 113 _ _ J g (4+n*29) zt J J (by intro j hj;exact⟨by rw[HY.out.cell _ (by have x8:j<29:=(by rw[da.out]at hj;exact hj);omega)];rfl,HY.out.b5 _⟩) (by rw[da.out];exact Al) (by rw[da.out];exact Dr) ?_));go_end0;refine⟨J,a8,?_,gN.out⟩;rw[<-lU.out];exact ik.out
def lu(g O:Nat)(P:PV)(s':WS)(y:ag)(W:ac)(e:Ending)(w':ac):Prop:=e=aq (az #[])/\∃a8,WX g O P s' a8 w'/\Fr g O y a8 W w'
theorem lu.nF{g O:Nat}{P:PV}{s':WS}{y:ag}{W X:ac}{e:Ending}{w':ac}(hb:aD W.heap.size W X)(h:lu g O P s' y X e w'):lu g O P s' y W e w':=by obtain⟨q,a8,h2,h3⟩:=h;exact⟨q,a8,h2,(Fr.bk y hb).trans h3⟩
theorem ahf(aU:Int):od ((2:Nat):Int) 0 oC cb aU=#[I R 2,I R 0,I aj 0,I aj 0,I ah 0,I ah 0,I ah 0,I ah 0,ad ⟨#[]⟩,I aj 0,I R 0,ad ⟨#[]⟩,I aj 0,I R 0,ad ⟨#[]⟩,I aj 0,I R 0,ad ⟨#[]⟩,I aj 0,I R 0,I R aU]:=rfl
theorem akH:od ((3:Nat):Int) 0 oC cb 0=#[I R 3,I R 0,I aj 0,I aj 0,I ah 0,I ah 0,I ah 0,I ah 0,ad ⟨#[]⟩,I aj 0,I R 0,ad ⟨#[]⟩,I aj 0,I R 0,ad ⟨#[]⟩,I aj 0,I R 0,ad ⟨#[]⟩,I aj 0,I R 0,I R 0]:=rfl
theorem SU{g O:Nat}{P:PV}{s:WS}{y:ag}{W:ac}(n:Nat)(u:n<3)(aU:Int)(h:WX g O P s y W)(cQ:s.aX.length<=1000000):ap ae 193 #[av (U ⟨g,0,ab⟩),I R n,I R aU] W (lu g O P (ec n 2 aU cb s) y W):=by have HE:=RU n u 2 aU cb h cQ;rw[ahf]at HE;clear h;go_enter func193,ntmps193;go_wp2_with fail;refine HE.mono ?_;rintro e w'⟨rfl,q⟩;go_wp2;go_end0;exact⟨J,q⟩
theorem Mj{g O:Nat}{P:PV}{s:WS}{y:ag}{W:ac}(n:Nat)(u:n<3)(f:Nat)(h:WX g O P s y W)(cQ:s.aX.length<=1000000):ap ae 187 #[av (U ⟨g,0,ab⟩),I R n,b8 43 (I R (f:Int))] W (lu g O P (ec n 2 (qt f:Nat) cb s) y W):=by have HE:=SU n u (qt f:Nat) h cQ;have HO:=amY f W;obtain⟨k,z⟩:∃k:Int,k=(qt f:Nat):=⟨_,J⟩;rw[<-z]at HE HO;rw[<-z];clear h z;go_enter func187,ntmps187;go_wp2_with fail;refine HO.mono ?_;rintro e w'⟨rfl,hw⟩;rw[hw];clear hw HO;go_wp2_with fail;refine HE.mono ?_;rintro e w'⟨rfl,q⟩;go_wp2;go_end0;exact⟨J,q⟩
theorem aap{g O:Nat}{P:PV}{s:WS}{y:ag}{W:ac}(n:Nat)(u:n<3)(a:bG)(ha:dl a=0)(next:Nat)(h:WX g O P s y W)(cQ:s.aX.length<=1000000):ap ae 184 #[av (U ⟨g,0,ab⟩),I R n,fe a,I R next] W (lu g O P (oW n a next s) y W):=by
 have j1:(0:Int)<=n:=by omega
 have j2:(n:Int)<3:=by omega
 unfold fe;obtain⟨V,hV,dp,jt,iM⟩:=eN W #[I R a.aF,I R a.aU] 30;have c0:=iM 0;have c1:=iM 1;simp only[cK,cT,c7]at c0 c1;have hg:=h.gh;have HX:=aa (h.au dp);clear iM jt;rcases vu ha with rfl|rfl|⟨k,dY,gG,rfl⟩;.have HS:=aa ((h.sk n next u).au (ai _ (.cells #[I R 1,I R 0] 30)));have cp:=HX.out.phase n u;have Cp:=HX.out.b5 (4+n*29);have HD:=aa (show oW n ⟨1,0⟩ next s=s.put n {s.T n with phase:=next}from J);simp only at hV c0 c1⊢;rw[HD.out];subst hV;clear h;go_enter func184,ntmps184;go_wp2;go_end0;exact⟨J,y,HS.out,(Fr.set y _ _ _).trans (Fr.bk y (ai _ _))⟩
 .have HE:=RU n u 3 0 cb HX.out cQ;rw[akH]at HE;have HD:=aa (show oW n ⟨3,0⟩ next s=ec n 3 0 cb s from J);simp only at hV c0 c1⊢;rw[HD.out];clear h;go_enter func184,ntmps184;go_wp2_with fail;rw[<-hV];refine HE.mono ?_;rintro e w'⟨rfl,q⟩;go_wp2;go_end0;exact lu.nF dp ⟨J,q⟩
 .have HE:=SU n u k HX.out cQ;have HD:=aa (show oW n ⟨2,(k:Int)⟩ next s=ec n 2 k cb s from J);simp only at hV c0 c1⊢;rw[HD.out];clear h;go_enter func184,ntmps184;go_wp2_with fail;rw[<-hV];refine HE.mono ?_;rintro e w'⟨rfl,q⟩;go_wp2;go_end0;exact lu.nF dp ⟨J,q⟩
def gW(n:Int)(s:WS):Nat:=if 0<=n/\n<3 then(if(s.T n.toNat).phase=6 then 8 else 0)else 1
theorem vS{g O:Nat}{P:PV}{s:WS}{y:ag}{W:ac}(n:Int)(h:WX g O P s y W):ap ae 100 #[av (U ⟨g,0,ab⟩),I R n] W fun e w'=>e=aq (cj (gW n s))/\w'=W:=by
 have HT:=acn n W;unfold gW;by_cases u:0<=n/\n<3
 .rw[if_pos u];rw[show(decide (0<=n)&&decide (n<3))=true by simp[u]]at HT;obtain⟨k,rfl⟩:∃k:Nat,n=k:=⟨n.toNat,by omega⟩;have z:k<3:=by omega
  have j1:(0:Int)<=k:=u.1;have j2:(k:Int)<3:=u.2;rw[d_];have cp:=h.phase k z;obtain⟨B,N⟩:=af (s.T k).phase;rw[<-N]at cp;rw[<-N];clear h N u;by_cases h6:B=6;.subst h6;rw[if_pos J,iL (by omega)];go_enter func100,ntmps100;go_wp2_with fail;refine HT.mono ?_;rintro e w'⟨rfl,rfl⟩;go_wp2;go_ret;exact⟨J,J⟩
  .rw[if_neg h6,kD];have Vu:¬((B:Int)=6):=by omega
   go_enter func100,ntmps100;go_wp2_with fail;refine HT.mono ?_;rintro e w'⟨rfl,rfl⟩;go_wp2;go_ret;exact⟨J,J⟩
 .rw[if_neg u,iL (by omega)];rw[show(decide (0<=n)&&decide (n<3))=false by
   by_cases h0:0<=n;.rw[decide_eq_false (p:=n<3) (fun h3=>u ⟨h0,h3⟩),Bool.and_false]
   .rw[decide_eq_false h0,Bool.false_and]]at HT;clear h;go_enter func100,ntmps100;go_wp2_with fail;refine HT.mono ?_;rintro e w'⟨rfl,rfl⟩;go_wp2;go_ret;exact⟨J,J⟩
theorem abx{g O:Nat}{P:PV}{s:WS}{y:ag}{W:ac}(n:Int)(h:WX g O P s y W):ap ae 70 #[av (U ⟨g,0,ab⟩),I R n] W fun e w'=>e=aq (I R (mr n s:Nat))/\w'=W:=by
 have HT:=acn n W;unfold mr;by_cases u:0<=n/\n<3
 .rw[if_pos u];rw[show(decide (0<=n)&&decide (n<3))=true by simp[u]]at HT;obtain⟨k,rfl⟩:∃k:Nat,n=k:=⟨n.toNat,by omega⟩;have z:k<3:=by omega
  have j1:(0:Int)<=k:=u.1;have j2:(k:Int)<3:=u.2;rw[d_];have cp:=h.phase k z;obtain⟨B,N⟩:=af (s.T k).phase;rw[<-N]at cp;rw[<-N];clear h N u;go_enter func70,ntmps70;go_wp2_with fail;refine HT.mono ?_;rintro e w'⟨rfl,rfl⟩;go_wp2;go_ret;exact⟨J,J⟩
 .rw[if_neg u];rw[show(decide (0<=n)&&decide (n<3))=false by
   by_cases h0:0<=n;.rw[decide_eq_false (p:=n<3) (fun h3=>u ⟨h0,h3⟩),Bool.and_false]
   .rw[decide_eq_false h0,Bool.false_and]]at HT;clear h;go_enter func70,ntmps70;go_wp2_with fail;refine HT.mono ?_;rintro e w'⟨rfl,rfl⟩;go_wp2;go_ret;exact⟨J,J⟩
def xz(g O:Nat)(P:PV)(s:WS)(r:MS×Nat)(y:ag)(W:ac)(e:Ending)(w':ac):Prop:=e=aq (cj r.2)/\WX g O P {s with mem:=r.1} y w'/\Fr g O y y W w'
theorem aiX{g O:Nat}{P:PV}{s:WS}{y:ag}{W:ac}(n:Int)(b:Bool)(h:WX g O P s y W):ap ae 62 #[av (U ⟨g,0,ab⟩),I R n,aH b] W (xz g O P s (jG n b s.mem) y W):=by have HM:=adK h.mem n b;have HX:=aa h;have cp:=h.ptr;obtain⟨r,L⟩:=af (jG n b s.mem);rw[<-L]at HM;rw[<-L];obtain⟨v,hv⟩:=af (cj r.2);unfold xz;rw[<-hv]at HM;rw[<-hv];clear h L hv;go_enter func62,ntmps62;go_wp2_with fail;refine HM.mono ?_;rintro e w'⟨rfl,q,h2⟩;go_wp2;go_ret;exact⟨J,HX.out.me q h2,Fr.grown y h2 (.inr J)⟩
theorem akE{g O:Nat}{P:PV}{s:WS}{y:ag}{W:ac}(n:Int)(h:WX g O P s y W):ap ae 64 #[av (U ⟨g,0,ab⟩),I R n] W (xz g O P s (jK n s.mem) y W):=by have HM:=anu h.mem n;have HX:=aa h;have cp:=h.ptr;obtain⟨r,L⟩:=af (jK n s.mem);rw[<-L]at HM;rw[<-L];obtain⟨v,hv⟩:=af (cj r.2);unfold xz;rw[<-hv]at HM;rw[<-hv];clear h L hv;go_enter func64,ntmps64;go_wp2_with fail;refine HM.mono ?_;rintro e w'⟨rfl,q,h2⟩;go_wp2;go_ret;exact⟨J,HX.out.me q h2,Fr.grown y h2 (.inr J)⟩
theorem aoe{g O:Nat}{P:PV}{s:WS}{y:ag}{W:ac}(a:Nat)(l:ByteArray)(ha:a<18446744073709551616)(hl:l.size<=1000)(h:WX g O P s y W):ap ae 65 #[av (U ⟨g,0,ab⟩),I ah a,ad l] W (xz g O P s (jw a l s.mem) y W):=by have HM:=am' h.mem a l ha hl;have HX:=aa h;have cp:=h.ptr;obtain⟨r,L⟩:=af (jw a l s.mem);rw[<-L]at HM;rw[<-L];obtain⟨v,hv⟩:=af (cj r.2);unfold xz;rw[<-hv]at HM;rw[<-hv];clear h L hv;go_enter func65,ntmps65;go_wp2_with fail;refine HM.mono ?_;rintro e w'⟨rfl,q,h2⟩;go_wp2;go_ret;exact⟨J,HX.out.me q h2,Fr.grown y h2 (.inr J)⟩
theorem aca{g O:Nat}{P:PV}{s:WS}{y:ag}{W:ac}(n:Int)(c:KL)(M:gW n s≠0)(h:WX g O P s y W):ap ae 66 #[av (U ⟨g,0,ab⟩),I R n,cR c] W fun e w'=>e=aq (cj (gW n s))/\aD W.heap.size W w':=by have HA:=vS n (h.au (ai W (.cells (bX c) 68)));rw[iL M]at HA;rw[iL M];obtain⟨f,Cv⟩:=af (gW n s);rw[<-Cv]at HA;rw[<-Cv];clear h Cv M;unfold cR bX;unfold bX at HA;go_enter func66,ntmps66;go_wp2_with fail;refine HA.mono ?_;rintro e w'⟨rfl,rfl⟩;go_wp2;go_ret;exact⟨J,ai _ _⟩
theorem agn{g O:Nat}{P:PV}{s:WS}{y:ag}{W:ac}(n:Nat)(u:n<3)(c:KL)(N:(s.T n).phase≠0)(IB:(s.T n).phase≠6)(h:WX g O P s y W):ap ae 66 #[av (U ⟨g,0,ab⟩),I R n,cR c] W fun e w'=>e=aq (cj 7)/\aD W.heap.size W w':=by
 have hX:=h.au (ai W (.cells (bX c) 68));have HA:=vS n hX;have j1:(0:Int)<=n:=by omega
 have j2:(n:Int)<3:=by omega
 rw[show gW n s=0 by unfold gW;rw[if_pos ⟨j1,j2⟩,d_,if_neg IB],kD]at HA;rw[iL (by omega)];have cp:=hX.phase n u;obtain⟨B,mH⟩:=af (s.T n).phase;rw[<-mH]at cp N;have Kl:¬((B:Int)=0):=by omega
 clear h mH IB hX;unfold cR bX;unfold bX at HA cp;go_enter func66,ntmps66;go_wp2_with fail;refine HA.mono ?_;rintro e w'⟨rfl,rfl⟩;go_wp2;go_ret;exact⟨J,ai _ _⟩
def MK(c:KL):Array ag:=#[I R 1,I aj c.ej,I aj c.nr,I ah c.a0,I ah c.bR,I ah c.a2,I ah c.a3,I ah c.a0,I ah c.bR,I ah c.a2,I ah c.a3,aH false,aH false,aH false,aH false,I R 0,ad ⟨#[]⟩,ad ⟨#[]⟩,I aj 0,I R 0,ad ⟨#[]⟩,I aj 0,I R 0,ad ⟨#[]⟩,I aj 0,I R 0,ad ⟨#[]⟩,I aj 0,I R 0]
theorem ang(c:KL):∀j,j<29->(MK c).toList.getD j undef=ef (ui c) j:=by intro j hj;match j,hj with|0,_=>rfl|1,_=>rfl|2,_=>rfl|3,_=>rfl|4,_=>rfl|5,_=>rfl|6,_=>rfl|7,_=>rfl|8,_=>rfl|9,_=>rfl|10,_=>rfl|11,_=>rfl|12,_=>rfl|13,_=>rfl|14,_=>rfl|15,_=>rfl|16,_=>rfl|17,_=>rfl|18,_=>rfl|19,_=>rfl|20,_=>rfl|21,_=>rfl|22,_=>rfl|23,_=>rfl|24,_=>rfl|25,_=>rfl|26,_=>rfl|27,_=>rfl|28,_=>rfl|j+29,hj=>omega
theorem W3(c:KL):(MK c).all (·.oneCell')=true:=by simp[MK,fG]
theorem Lv{o:bz}{a:Act}{w:ac}{K:Act->ac->Prop}{aE:eK->Act->ac->Prop}(t:c6)(parts:Array (Nat×gr))(ho:o.op= .build t parts)(d:Option Tmp)(hd:o.dst=d)(cells:Array ag)(M:ae.built t (parts.map fun(i,x)=>(i,a.eval x)).toList=U cells)(h:K (a.put d (aw cells)) w):o.wp ae a w K aE:=by subst hd;refine wp_build t parts ho (by rw[M];rfl) ?_;rw[M];exact h
set_option maxHeartbeats 2000000 in set_option maxRecDepth 20000 in theorem ai8{g O:Nat}{P:PV}{s:WS}{y:ag}{W:ac}(n:Nat)(u:n<3)(c:KL)(N:(s.T n).phase=0)(h:WX g O P s y W):ap ae 66 #[av (U ⟨g,0,ab⟩),I R n,cR c] W fun e w'=>e=aq .nilIface/\WX g O P (s.put n (ui c)) y w'/\Fr g O y y W w':=by
 have hX:=h.au (ai W (.cells (bX c) 68));have HA:=vS n hX;have j1:(0:Int)<=n:=by omega
 have j2:(n:Int)<3:=by omega
 rw[show gW n s=0 by unfold gW;rw[if_pos ⟨j1,j2⟩,d_,if_neg (by omega)],kD]at HA;have cp:=hX.phase n u;rw[N]at cp;have hY:=hX.au (aS _ _).drew;have HY:=aa hY;obtain⟨zt,fC⟩:=af (MK c);have da:=aa fC;have ik:=aa (hY.Br n u zt (by rw[fC];rfl) (ui c) (fun j hj=>by rw[fC];exact ang c j hj));have gN:=aa ((Fr.bk (g:=g) (O:=O) y (ai W (.cells (bX c) 68))).trans ((Fr.bk y (aS _ _).drew).trans (Fr.cells (g:=g) (O:=O) y _ (4+n*29) zt.toList)));clear h hX hY N fC;unfold cR bX;unfold bX at HA cp HY ik gN;go_enter func66,ntmps66;go_wp2_with fail;refine HA.mono ?_;rintro e w'⟨rfl,rfl⟩;go_wp2_with fail;obtain⟨r,L⟩:=af W.heap.size;have hb:(W.alloc (.cells #[I aj c.ej,I aj c.nr,I ah c.a0,I ah c.bR,I ah c.a2,I ah c.a3] 68)).drew.heap[r]?=U (.cells #[I aj c.ej,I aj c.nr,I ah c.a0,I ah c.bR,I ah c.a2,I ah c.a3] 68 (0,0)):=by rw[L];exact a7 W _
 rw[<-L];obtain⟨X,B1⟩:=af (W.alloc (.cells #[I aj c.ej,I aj c.nr,I ah c.a0,I ah c.bR,I ah c.a2,I ah c.a3] 68));rw[<-B1]at hb HY ik gN;rw[<-B1];clear B1 L HA cp;have b_:=aT _ _ 0 _ _ _ hb;have b1:=aT _ _ 1 _ _ _ hb;have b2:=aT _ _ 2 _ _ _ hb;have b3:=aT _ _ 3 _ _ _ hb;have rW:=aT _ _ 4 _ _ _ hb;have pz:=aT _ _ 5 _ _ _ hb;simp only[cK,cT,c7]at b_ b1 b2 b3 rW pz;refine mj (by kernel_rfl) ?_;change wpAny _ _ _ _ _ _ _ (ll _);refine aW 0 (U 23) (av (U ⟨g,0,ab⟩)) ?_;try simp only[ar,LT]
 refine aW 1 (U 24) (I R n) ?_;try simp only[ar,LT]
 refine aW 3 (U 26) (av (U ⟨r,2,ab⟩)) ?_;try simp only[ar,LT]
 refine aW 6 (U 29) (av (U ⟨g,0,ab⟩)) ?_;try simp only[ar,LT]
 refine aW 7 (U 30) (av (U ⟨g,4,ab⟩)) ?_;try simp only[ar,LT]
 refine iV (i:=2) (j:=4) (by kernel_rfl) J J J J (fun K A=>?_) (fun K A=>?_)
 .go_simp;refine A _ _ ?_;clear A K;try simp only[ar,LT]
  refine aR 4 fun K A=>?_;go_simp;refine A _ _ ?_;clear A K;try simp only[ar,LT]
  refine aR 5 fun K A=>?_;refine Lv 113 _ J (U 28) J zt (by rw[da.out];first|kernel_rfl|rfl) ?_;refine A _ _ ?_;clear A K;try simp only[ar,LT]
  refine aR 8 fun K A=>?_;go_simp;refine A _ _ ?_;clear A K;try simp only[ar,LT]
  refine aR 9 fun K A=>?_;refine wp_store_mid (P:=ae) 113 _ _ J g (4+n*29) zt J J (by intro j hj;exact⟨by rw[HY.out.cell _ (by have x8:j<29:=(by rw[da.out]at hj;exact hj);omega)];rfl,HY.out.b5 _⟩) (by rw[da.out];exact Al) (by rw[da.out];exact W3 c) ?_;refine A _ _ ?_;clear A K;try simp only[ar]
  refine dH (by kernel_rfl) ?_ _;go_wp2;go_ret;exact⟨J,ik.out,gN.out⟩
 .go_simp;refine A _ _ ?_;clear A K;try simp only[ar,LT]
  refine aR 2 fun K A=>?_;go_simp;refine A _ _ ?_;clear A K;try simp only[ar,LT]
  refine aR 5 fun K A=>?_;refine Lv 113 _ J (U 28) J zt (by rw[da.out];first|kernel_rfl|rfl) ?_;refine A _ _ ?_;clear A K;try simp only[ar,LT]
  refine aR 8 fun K A=>?_;go_simp;refine A _ _ ?_;clear A K;try simp only[ar,LT]
  refine aR 9 fun K A=>?_;refine wp_store_mid (P:=ae) 113 _ _ J g (4+n*29) zt J J (by intro j hj;exact⟨by rw[HY.out.cell _ (by have x8:j<29:=(by rw[da.out]at hj;exact hj);omega)];rfl,HY.out.b5 _⟩) (by rw[da.out];exact Al) (by rw[da.out];exact W3 c) ?_;refine A _ _ ?_;clear A K;try simp only[ar]
  refine dH (by kernel_rfl) ?_ _;go_wp2;go_ret;exact⟨J,ik.out,gN.out⟩
theorem YU(t:TH)(l:W8)(k:Nat):ef {t with dd:=l} k=if k=16 then ad (bs l)else ef t k:=by
 by_cases h:k=16;.subst h;rfl
 .rw[if_neg h];unfold ef;simp only[if_neg h]
theorem af9(t:TH)(x k:Nat):ef {t with cU:=x} k=if k=15 then I R x else ef t k:=by
 by_cases h:k=15;.subst h;rfl
 .rw[if_neg h];unfold ef;simp only[if_neg h]
theorem amg(t:TH)(x k:Nat):ef {t with phase:=x} k=if k=0 then I R x else ef t k:=by
 by_cases h:k=0;.subst h;rfl
 .rw[if_neg h];unfold ef;simp only[if_neg h]
theorem adp(t:TH)(i x k:Nat)(hi:i<4):ef {t with args:=aO t.args i x} k=if k=7+i then I ah x else ef t k:=by
 by_cases h:k=7+i;.subst h;rw[if_pos J,GX _ _ hi];show I ah ((aO t.args i x i:Nat):Int)=_;rw[dN]
 .rw[if_neg h];unfold ef;simp only;split;.rfl
  .split;.rfl
   .split;.rfl
    .split;.rfl
     .split;.rw[ed _ _ (by omega)]
      .rfl
theorem ajJ(t:TH)(i k:Nat)(x:Bool)(hi:i<4):ef {t with bV:=aO t.bV i x} k=if k=11+i then aH x else ef t k:=by
 by_cases h:k=11+i;.subst h;rw[if_pos J,PI _ _ hi];show aH (aO t.bV i x i)=_;rw[dN]
 .rw[if_neg h];unfold ef;simp only;split;.rfl
  .split;.rfl
   .split;.rfl
    .split;.rfl
     .split;.rfl
      .split;.rw[ed _ _ (by omega)]
       .rfl
theorem ake(t:TH)(i k:Nat)(v:VL)(h:¬(17+i*3<=k/\k<17+i*3+3)):ef {t with aG:=aO t.aG i v} k=ef t k:=by
 by_cases XY:k<17;.rcases show k=0\/k=1\/k=2\/k=3\/k=4\/k=5\/k=6\/k=7\/k=8\/k=9\/k=10\/k=11\/k=12\/k=13\/k=14\/k=15\/k=16 by omega with rfl|rfl|rfl|rfl|rfl|rfl|rfl|rfl|rfl|rfl|rfl|rfl|rfl|rfl|rfl|rfl|rfl<;>rfl
 .obtain⟨d,e,hd,z⟩:∃d e,e<3/\k=17+d*3+e:=⟨(k-17)/3,(k-17)%3,by omega,by omega⟩;have bo:d≠i:=by omega
  have q:=m_ {t with aG:=aO t.aG i v} d;have h2:=m_ t d;rw[show({t with aG:=aO t.aG i v}:TH).aG d=t.aG d from ed _ _ bo]at q;subst z;rcases show e=0\/e=1\/e=2 by omega with rfl|rfl|rfl;.exact q.1.trans h2.1.symm
  .exact q.2.1.trans h2.2.1.symm
  .exact q.2.2.trans h2.2.2.symm
theorem WX.EG{g O:Nat}{P:PV}{s:WS}{y:ag}{W:ac}{n:Nat}{t0:TH}(h:WX g O P (s.put n t0) y W)(j:Nat)(u:n<3)(hj:j<29)(v:ag)(t:TH)(H:∀k,ef t k=if k=j then v else ef t0 k):WX g O P (s.put n t) y (W.setCell ⟨g,4+n*29+j,ab⟩ v):=by have q:=h.wg n j u hj v t (fun k _=>by rw[jp];exact H k);rw[L5]at q;exact q
theorem WX.aim{g O:Nat}{P:PV}{s:WS}{y:ag}{W:ac}{n:Nat}{t0:TH}(h:WX g O P (s.put n t0) y W)(i:Nat)(u:n<3)(hi:i<4)(v:VL):WX g O P (s.put n {t0 with aG:=aO t0.aG i v}) y (W.setCells g (4+n*29+17+i*3) (eo v).toList):=by
 rw[SR g 116 _ _ _ W h.row];have q:=h.F_ (aO (s.put n t0).T n {t0 with aG:=aO t0.aG i v}) (Rd P O (s.put n t0).T y n u {t0 with aG:=aO t0.aG i v} (ga (mE P O (s.put n t0).T y) (4+n*29+17+i*3) (eo v).toList) (fun j hj=>?_) fun k z=>?_)
 .have h2:({s.put n t0 with T:=aO (s.put n t0).T n {t0 with aG:=aO t0.aG i v}}:WS)=s.put n {t0 with aG:=aO t0.aG i v}:=by unfold WS.put;simp only[BI]
  rw[h2]at q;exact q
 .have hl:(eo v).toList.length=3:=J;unfold ga;rw[hl];by_cases L:17+i*3<=j/\j<17+i*3+3
  .rw[if_pos (by omega)];have hv:=m_ {t0 with aG:=aO t0.aG i v} i;simp only[dN]at hv;rcases show j=17+i*3\/j=17+i*3+1\/j=17+i*3+2 by omega with rfl|rfl|rfl;.rw[hv.1,show 4+n*29+(17+i*3)-(4+n*29+17+i*3)=0 by omega];rfl
   .rw[hv.2.1,show 4+n*29+(17+i*3+1)-(4+n*29+17+i*3)=1 by omega];rfl
   .rw[hv.2.2,show 4+n*29+(17+i*3+2)-(4+n*29+17+i*3)=2 by omega];rfl
  .rw[if_neg (by omega),MT _ _ _ _ _ _ u hj,jp];exact(ake t0 i j v L).symm
 .unfold ga;rw[show(eo v).toList.length=3 from J,if_neg];intro hh;exact z (k-(4+n*29)) (by omega) (by omega)
theorem ab'{t ay:TH}(m:MS)(q:t.bV=ay.bV)(h2:t.args=ay.args):∀i,k6 t m i=k6 ay m i|0=>J|i+1=>by unfold k6;rw[ab' m q h2 i,q,h2]
theorem agX{n:Nat}{s:WS}{t:TH}(aF:Nat)(aU:Int)(v:VS)(q:t.bV=(s.T n).bV)(h2:t.args=(s.T n).args)(h3:t.call=(s.T n).call):ec n aF aU v (s.put n t)=ec n aF aU v s:=by unfold ec;rw[jp,h3,ab' _ q h2];unfold WS.put;simp only[BI]
theorem UN(P:jf)(w:ac)(lJ sT ty elem:c6)(sz g o Ww pJ:Nat)(a:bl)(Xk tt:Nat)(co:Array ag)(t:c6)(cs:List ag)(k:Nat)(hu:P.underlying lJ=U (.slice elem))(F:(P.info? elem).map (·.size)=U sz)(hg:w.heap[g]?=U (.cells co t (0,0)))(z:k=Nat.min Xk Ww)(u:cs.length=k*sz)(qW:∀j v,cs[j]?=U v->w.cell? (a.add j)=U v)(O5:o+cs.length<=co.size)(q:∀v∈cs,v.oneCell'=true):(Builtin.copy_ #[lJ,sT] ty #[ak (U ⟨g,o,ab⟩) Ww pJ,ak (U a) Xk tt]).run P w= .ok (goInt k) (w.setRow g (co.toList.take o++cs++co.toList.drop (o+cs.length)).toArray):=by
 have hl:=run_loadCells_list (P:=P) w a cs qW;have bN:=run_storeCells_at P g o t cs 0 co w hg (by simpa using O5) q;cases N:P.info? elem with
  |none=>simp[N]at F
  |some i=>
   have hi:i.size=sz:=by simpa[N]using F
   simp[Builtin.copy_,run_underlying hu,Builtin.lenOf,Builtin.firstCells,sizeOf,typeInfo,N,hi,<-z,<-u,hl,bN]
theorem ah4{P:jf}{w:ac}{a_:Array bz}{rest:List bz}{o:bz}{a:Act}{aE:eK->Act->ac->Prop}(de:o.guard=ab)(d s:gr)(lJ sT:c6)(ho:o.op= .call {callee:= .builtin .copy,args:=#[d,s],argTypes:=#[lJ,sT]})(elem:c6)(sz:Nat)(hu:P.underlying lJ=U (.slice elem))(cP:(P.info? elem).map (·.size)=U sz)(g k pJ:Nat)(ju:bl)(tt:Nat)(hd:a.eval d=ak (U ⟨g,0,ab⟩) k pJ)(F:a.eval s=ak (U ju) k tt)(co:Array ag)(t:c6)(hg:w.heap[g]?=U (.cells co t (0,0)))(cs:List ag)(u:cs.length=k*sz)(eM:co.size=k*sz)(qW:∀j v,cs[j]?=U v->w.cell? (ju.add j)=U v)(q:∀v∈cs,v.oneCell'=true)(h:wpList P a_ aE rest (a.put o.dst (goInt k)) (w.setRow g cs.toArray)):wpList P a_ aE (o::rest) a w:=by refine vI de fun K A=>?_;have qc:=UN P w lJ sT o.type elem sz g 0 k pJ ju k tt co t cs k hu cP hg (Nat.min_self k).symm u qW (by omega) q;rw[CZ,vz,ru,sD (by simp;omega),ry]at qc;unfold lk;simp[execOp,ho,resolve,invoke,builtin,hd,F,qc,tQ];exact A _ _ h
theorem ahw{P:jf}{w:ac}{a_:Array bz}{rest:List bz}{o:bz}{a:Act}{aE:eK->Act->ac->Prop}(de:o.guard=ab)(d s:gr)(lJ sT:c6)(ho:o.op= .call {callee:= .builtin .copy,args:=#[d,s],argTypes:=#[lJ,sT]})(elem:c6)(sz:Nat)(hu:P.underlying lJ=U (.slice elem))(cP:(P.info? elem).map (·.size)=U sz)(ju:bl)(k pJ:Nat)(hd:a.eval d=ak (U ju) k pJ)(F:a.eval s=ak ab 0 0)(h:wpList P a_ aE rest (a.put o.dst (goInt 0)) w):wpList P a_ aE (o::rest) a w:=by refine vI de fun K A=>?_;have qc:=run_copy_nil P w lJ sT o.type elem ju k pJ hu (by rw[cP];rfl);unfold lk;simp[execOp,ho,resolve,invoke,builtin,hd,F,qc,tQ];exact A _ _ h
end Go.Proofs.YtefdakbahplnbaaGreatDoor
namespace Go.Proofs.YtefdakbahplnbaaGreatDoor
open Go.RowKit Go.Sort
theorem Qx(cs:List CD):∀ay∈gO cs,ay.oneCell'=true:=fun ay h=>by unfold gO at h;obtain⟨c,_,hu⟩:=List.mem_flatMap.1 h;simp only[bm,kh,xc,or_false]at hu;rcases hu with rfl|rfl|rfl|rfl|rfl|rfl|rfl|rfl|rfl<;>rfl
theorem Vb(b off j:Nat):(⟨b,off,ab⟩:bl).add j=⟨b,off+j,ab⟩:=by unfold Addr.add;split<;>simp_all
theorem ahr{oa:Option bl}{cs:List CD}{W:ac}(h:jV oa cs W){ju:bl}(ha:oa=U ju):∀j ay,(gO cs)[j]?=U ay->W.cell? (ju.add j)=U ay:=fun j ay hu=>by
 have hj:j<cs.length*9:=by rw[<-KP cs];exact(pb.1 hu).1
 obtain⟨b,off,q,_,h3⟩:=h.ez (by omega);rw[ha]at q;obtain rfl:=dG q;obtain⟨c,H⟩:∃c,cs[j/9]?=U c:=⟨_,cq (by omega)⟩;have hI:=h3 (j/9) c H;have hg:=Kd cs (j/9) c (j%9) H (by omega);rw[show j/9*9+j%9=j by omega,hu]at hg;rw[Vb,show off+j=off+j/9*9+j%9 by omega,hg];have gb:j%9=0\/j%9=1\/j%9=2\/j%9=3\/j%9=4\/j%9=5\/j%9=6\/j%9=7\/j%9=8:=by omega
 rcases gb with e|e|e|e|e|e|e|e|e;.rw[e];exact hI.k0
 .rw[e];exact hI.k1
 .rw[e];exact hI.k2
 .rw[e];exact hI.k3
 .rw[e];exact hI.EZ
 .rw[e];exact hI.X9
 .rw[e];exact hI.U9
 .rw[e];exact hI.Mb
 .rw[e];exact hI.Jr
end Go.Proofs.YtefdakbahplnbaaGreatDoor
namespace Go.Proofs.YtefdakbahplnbaaGreatDoor
open Go.RowKit Mm
theorem al0(c:Array ag):∃f,c=VA c.size f:=⟨fun i=>c.getD i undef,by rw[yV];unfold rH;refine Array.ext (by simp) fun i q h2=>?_;simp⟩
theorem PG(bu g:Nat)(ty:c6):∀(l:List ag)(o:Nat)(f:Nat->ag)(W:ac),W.heap[g]?=U (.cells (VA bu f) ty (0,0))->W.setCells g o l=W.setRow g (VA bu (ga f o l))
 |[],o,f,W,h=>by rw[show ga f o []=f by funext i;unfold ga;rw[if_neg (by simp only[nI];omega)]];exact(setRow_self W g _ _ _ h).symm
 |x::r,o,f,W,h=>by
  rw[FP,cJ _ _ _ _ _ _ _ h,qu,PG bu g ty r (o+1) (e0 f o x) _ (aV _ _ _ _ _ _ h),l' _ _ _ _ _ _ h];congr 2;funext i;unfold ga e0;by_cases q:i=o;.subst q;rw[if_neg (by omega),if_pos J,if_pos (by simp),zd];rfl
  .by_cases h2:o+1<=i/\i<o+1+r.length;.rw[if_pos h2,if_pos (by rw[fh];omega),show i-o=(i-(o+1))+1 by omega,N3]
   .rw[if_neg h2,if_neg q,if_neg (by rw[fh];omega)]
theorem ahg{a_:Array bz}{rest:List bz}{o:bz}{a:Act}{w:ac}{aE:eK->Act->ac->Prop}(de:o.guard=ab)(x al:gr)(ho:o.op= .makeSlice 28 x al)(n:Nat)(hx:a.eval x=I R (n:Int))(hy:a.eval al=I R (n:Int))(u:n<=1000)(h:∀f:Nat->ag,wpList ae a_ aE rest (a.put o.dst (ak (U ⟨w.heap.size,0,ab⟩) n n)) (w.alloc (.cells (VA (n*4) f) 54))):wpList ae a_ aE (o::rest) a w:=by obtain⟨eq,d8,dh,dD,dz⟩:=S4;have L:=run_make (P:=ae) w 28 54 eq _ underlying28 d8 dh R R (n:Int) (n:Int) (by omega) (JQ _) (by rw[dz];omega) (by omega);rw[d_,dD]at L;refine vI de fun K A=>?_;unfold lk execOp;simp only[ho,hx,hy,xl,L,tW];refine A _ _ ?_;obtain⟨f,M⟩:=al0 _;rw[FO]at M;rw[M];exact h f
theorem ah6{a_:Array bz}{rest:List bz}{o:bz}{a:Act}{w:ac}{aE:eK->Act->ac->Prop}(de:o.guard=ab)(x al:gr)(ho:o.op= .makeSlice 52 x al)(n:Nat)(hx:a.eval x=I R (n:Int))(hy:a.eval al=I R (n:Int))(u:n<=1000)(h:∀c:Array ag,c.size=n*9->wpList ae a_ aE rest (a.put o.dst (ak (U ⟨w.heap.size,0,ab⟩) n n)) (w.alloc (.cells c 129))):wpList ae a_ aE (o::rest) a w:=by obtain⟨eq,d8,dh,dD,dz⟩:=KA;have L:=run_make (P:=ae) w 52 129 eq _ underlying52 d8 dh R R (n:Int) (n:Int) (by omega) (JQ _) (by rw[dz];omega) (by omega);rw[d_,dD]at L;refine vI de fun K A=>?_;unfold lk execOp;simp only[ho,hx,hy,xl,L,tW];exact A _ _ (h _ (FO _ _))
theorem OU{P:jf}{w:ac}{o:bz}{a:Act}{K:Act->ac->Prop}{aE:eK->Act->ac->Prop}(d s:gr)(lJ sT:c6)(ho:o.op= .call {callee:= .builtin .copy,args:=#[d,s],argTypes:=#[lJ,sT]})(elem:c6)(sz:Nat)(hu:P.underlying lJ=U (.slice elem))(cP:(P.info? elem).map (·.size)=U sz)(g k pJ:Nat)(ju:bl)(tt:Nat)(hd:a.eval d=ak (U ⟨g,0,ab⟩) k pJ)(F:a.eval s=ak (U ju) k tt)(co:Array ag)(t:c6)(hg:w.heap[g]?=U (.cells co t (0,0)))(cs:List ag)(u:cs.length=k*sz)(eM:co.size=k*sz)(qW:∀j v,cs[j]?=U v->w.cell? (ju.add j)=U v)(q:∀v∈cs,v.oneCell'=true)(h:K (a.put o.dst (goInt k)) (w.setRow g cs.toArray)):o.wp P a w K aE:=by have qc:=UN P w lJ sT o.type elem sz g 0 k pJ ju k tt co t cs k hu cP hg (Nat.min_self k).symm u qW (by omega) q;rw[CZ,vz,ru,sD (by simp;omega),ry]at qc;unfold lk;simp[execOp,ho,resolve,invoke,builtin,hd,F,qc,tQ];exact h
structure sP(w:ac)(oa:Option bl)(n cap:Nat)(a:bG)(rs:List RL)(i:Nat)(X:ac):Prop where
 below:aD w.heap.size w X
 box:X.heap[w.heap.size]?=U (.cells (iW (ak oa n cap) a) 32 (0,0))
 ci:X.heap[w.heap.size+1]?=U (.cells (iW (ak ab 0 0) ⟨0,0⟩) 32 (0,0))
 row:∃f,X.heap[w.heap.size+2]?=U (.cells (VA (n*4) f) 54 (0,0))/\∀j r,j<i->rs[j]?=U r->∃dZ,w.heap.size+2<dZ/\f (j*4)=I R r.nr/\f (j*4+1)=ak (U ⟨dZ,0,ab⟩) r.bq.length r.bq.length/\f (j*4+2)=I R r.dO.aF/\f (j*4+3)=I R r.dO.aU/\X.heap[dZ]?=U (.cells (gO r.bq).toArray 129 (0,0))
theorem sP.lt{w:ac}{oa:Option bl}{n cap:Nat}{a:bG}{rs:List RL}{i:Nat}{X:ac}(h:sP w oa n cap a rs i X):w.heap.size+2<X.heap.size:=by obtain⟨f,q,_⟩:=h.row;exact(bM.1 q).1
theorem sP.start(w:ac)(oa:Option bl)(n cap:Nat)(a:bG)(rs:List RL)(f:Nat->ag):sP w oa n cap a rs 0 (((w.alloc (.cells (iW (ak oa n cap) a) 32)).alloc (.cells (iW (ak ab 0 0) ⟨0,0⟩) 32)).alloc (.cells (VA (n*4) f) 54)):=by
 obtain⟨br,hA⟩:=af (w.alloc (.cells (iW (ak oa n cap) a) 32));have bR:br.heap[w.heap.size]?=U (.cells (iW (ak oa n cap) a) 32 (0,0)):=by rw[hA];exact a7 _ _
 have a2:aD w.heap.size w br:=by rw[hA];exact ai _ _
 have a3:br.heap.size=w.heap.size+1:=by rw[hA,bA]
 rw[<-hA];obtain⟨D,hB⟩:=af (br.alloc (.cells (iW (ak ab 0 0) ⟨0,0⟩) 32));have b1:D.heap[w.heap.size+1]?=U (.cells (iW (ak ab 0 0) ⟨0,0⟩) 32 (0,0)):=by rw[hB,<-a3];exact a7 _ _
 have b2:aD br.heap.size br D:=by rw[hB];exact ai _ _
 have b3:D.heap.size=w.heap.size+2:=by rw[hB,bA,a3]
 rw[<-hB];have c2:=ai D (.cells (VA (n*4) f) 54);exact⟨ax (ax a2 b2) c2,((c2.block _ (by omega)).trans (b2.block _ (by omega))).trans bR,(c2.block _ (by omega)).trans b1,f,by rw[<-b3];exact a7 _ _,fun j r hj=>by omega⟩
theorem sP.next{w:ac}{oa:Option bl}{n cap:Nat}{a:bG}{rs:List RL}{i:Nat}{X:ac}(h:sP w oa n cap a rs i X)(hi:i<n){r:RL}(L:rs[i]?=U r)(E:ag)(aI:Array ag){X4:ac}(h4:X4=(((X.setCells (w.heap.size+2) (i*4) [I R r.nr,E,I R r.dO.aF,I R r.dO.aU]).setCell ⟨w.heap.size+2,i*4+1,ab⟩ (ak (U ⟨X.heap.size,0,ab⟩) r.bq.length r.bq.length)).alloc (.cells aI 129)).drew.setRow X.heap.size (gO r.bq).toArray):sP w oa n cap a rs (i+1) X4:=by
 have am:=h.lt;obtain⟨f,M,tI⟩:=h.row;obtain⟨zj,ux⟩:=af [I R r.nr,E,I R r.dO.aF,I R r.dO.aU];rw[<-ux,PG (n*4) _ _ zj (i*4) f X M]at h4;obtain⟨U1,s8⟩:=af (X.setRow (w.heap.size+2) (VA (n*4) (ga f (i*4) zj)));have u1:U1.heap[w.heap.size+2]?=U (.cells (VA (n*4) (ga f (i*4) zj)) 54 (0,0)):=by rw[s8];exact aV _ _ _ _ _ _ M
 have u1o:∀k,k≠w.heap.size+2->U1.heap[k]?=X.heap[k]?:=fun k z=>by rw[s8];exact ij X _ k _ z
 have u1s:U1.heap.size=X.heap.size:=by rw[s8,iz]
 have QN:U1.os=X.os/\U1.tape=X.tape/\U1.output=X.output:=by rw[s8];exact⟨J,J,J⟩
 rw[<-s8,cJ _ _ _ _ _ _ _ u1,qu]at h4;obtain⟨d5,hF⟩:=af (e0 (ga f (i*4) zj) (i*4+1) (ak (U ⟨X.heap.size,0,ab⟩) r.bq.length r.bq.length));rw[<-hF]at h4;obtain⟨U2,Aw⟩:=af (U1.setRow (w.heap.size+2) (VA (n*4) d5));have An:U2.heap[w.heap.size+2]?=U (.cells (VA (n*4) d5) 54 (0,0)):=by rw[Aw];exact aV _ _ _ _ _ _ u1
 have u2o:∀k,k≠w.heap.size+2->U2.heap[k]?=U1.heap[k]?:=fun k z=>by rw[Aw];exact ij U1 _ k _ z
 have Wg:U2.heap.size=X.heap.size:=by rw[Aw,iz,u1s]
 have S8:U2.os=U1.os/\U2.tape=U1.tape/\U2.output=U1.output:=by rw[Aw];exact⟨J,J,J⟩
 rw[<-Aw]at h4;obtain⟨U3,vl⟩:=af (U2.alloc (.cells aI 129));have Ir:aD U2.heap.size U2 U3:=by rw[vl];exact ai _ _
 have u3s:U3.heap.size=X.heap.size+1:=by rw[vl,bA,Wg]
 have u3n:U3.heap[X.heap.size]?=U (.cells aI 129 (0,0)):=by rw[vl,<-Wg];exact a7 _ _
 have u3:=(Ir.block _ (by omega)).trans An;rw[<-vl]at h4;have u4:X4.heap[X.heap.size]?=U (.cells (gO r.bq).toArray 129 (0,0)):=by rw[h4];exact aV U3.drew _ _ _ _ _ u3n
 have Yo:∀k,k≠X.heap.size->X4.heap[k]?=U3.heap[k]?:=fun k z=>by rw[h4];exact ij U3.drew _ k _ z
 have u4s:X4.heap.size=X.heap.size+1:=by rw[h4,iz];exact u3s
 have Px:X4.os=U3.os/\X4.tape=U3.tape/\X4.output=U3.output:=by rw[h4];exact⟨J,J,J⟩
 have Lm:∀k,k<X.heap.size->k≠w.heap.size+2->X4.heap[k]?=X.heap[k]?:=fun k z bo=>(Yo k (by omega)).trans ((Ir.block k (by omega)).trans ((u2o k bo).trans (u1o k bo)));have it:=h.below.size;refine⟨h.below.trans ⟨Px.1.trans (Ir.os.trans (S8.1.trans QN.1)),Px.2.1.trans (Ir.tape.trans (S8.2.1.trans QN.2.1)),Px.2.2.trans (Ir.output.trans (S8.2.2.trans QN.2.2)),by omega,fun k z=>Lm k (by omega) (by omega)⟩,(Lm _ (by omega) (by omega)).trans h.box,(Lm _ (by omega) (by omega)).trans h.ci,d5,(Yo _ (by omega)).trans u3,fun j r' hj Fj=>?_⟩;by_cases jz:j=i
 .subst jz;obtain rfl:r=r':=dG (L.symm.trans Fj);have RD:∀B,B<4->B≠1->d5 (j*4+B)=zj.getD B undef:=fun B N pw=>by rw[hF];unfold e0 ga;rw[if_neg (by omega),if_pos (by rw[ux];simp only[fh,nI];omega),show j*4+B-j*4=B by omega]
  refine⟨X.heap.size,am,?_,?_,?_,?_,u4⟩;.rw[show j*4=j*4+0 from J,RD 0 (by omega) (by omega),ux];rfl
  .rw[hF];unfold e0;rw[if_pos J]
  .rw[RD 2 (by omega) (by omega),ux];rfl
  .rw[RD 3 (by omega) (by omega),ux];rfl
 .obtain⟨dZ,q,h2,h3,h5,h6,h7⟩:=tI j r' (by omega) Fj;have L4:∀B,B<4->d5 (j*4+B)=f (j*4+B):=fun B N=>by rw[hF];unfold e0 ga;rw[if_neg (by omega),if_neg (by rw[ux];simp only[fh,nI];omega)]
  have eW:dZ<X.heap.size:=(bM.1 h7).1;exact⟨dZ,q,(L4 0 (by omega)).trans h2,(L4 1 (by omega)).trans h3,(L4 2 (by omega)).trans h5,(L4 3 (by omega)).trans h6,(Lm dZ eW (by omega)).trans h7⟩
theorem agW{W:ac}{dZ:Nat}{cs:List CD}(h:W.heap[dZ]?=U (.cells (gO cs).toArray 129 (0,0)))(bh:∀c∈cs,jJ c):jV (U ⟨dZ,0,ab⟩) cs W:=⟨fun _=>⟨dZ,0,J,(bM.1 h).1,fun i c H=>by
 have dX:∀j ay,j<9->(bm c).toList[j]?=U ay->W.cell? ⟨dZ,0+i*9+j,ab⟩=U ay:=fun j ay hj hu=>by rw[aT _ _ _ _ _ _ h,ru,cK,Kd cs i c j H hj];exact hu
 exact⟨dX 0 _ (by omega) J,dX 1 _ (by omega) J,dX 2 _ (by omega) J,dX 3 _ (by omega) J,dX 4 _ (by omega) J,dX 5 _ (by omega) J,dX 6 _ (by omega) J,dX 7 _ (by omega) J,dX 8 _ (by omega) J,bh c (iy H)⟩⟩⟩
theorem sP.bw{w:ac}{oa:Option bl}{n cap:Nat}{a:bG}{rs:List RL}{X:ac}(h:sP w oa n cap a rs n X)(u:n=rs.length)(bh:∀r∈rs,uJ r)(hm:∀r∈rs,r.bq.length<=1000){V:ac}(hb:∀k,w.heap.size+2<=k->k<X.heap.size->V.heap[k]?=X.heap[k]?)(F:X.heap.size<=V.heap.size):xB (U ⟨w.heap.size+2,0,ab⟩) rs V:=by
 obtain⟨f,M,tI⟩:=h.row;have am:=h.lt;refine⟨fun _=>⟨w.heap.size+2,0,J,by omega,fun i r L=>?_⟩⟩;have hi:i<rs.length:=(pb.1 L).1;obtain⟨dZ,q,h2,h3,h5,h6,h7⟩:=tI i r (by omega) L;have lQ:=iy L;have eW:dZ<X.heap.size:=(bM.1 h7).1;have hV:=(hb (w.heap.size+2) (by omega) am).trans M;have H:∀B,B<4->V.cell? ⟨w.heap.size+2,0+i*4+B,ab⟩=U (f (i*4+B)):=fun B N=>by rw[aT _ _ _ _ _ _ hV,ru];exact km _ _ _ (by omega)
 refine⟨U ⟨dZ,0,ab⟩,r.bq.length,(H 0 (by omega)).trans (congrArg U h2),(H 1 (by omega)).trans (congrArg U h3),(H 2 (by omega)).trans (congrArg U h5),(H 3 (by omega)).trans (congrArg U h6),agW ((hb dZ (by omega) eW).trans h7) (bh r lQ).bq,aA _,by have:=hm r lQ;unfold maxLen;omega,bh r lQ⟩
def M7(D:Nat)(ob:Option bl)(cap:Nat)(p:bj)(W:ac):Prop:=∀V:ac,(∀k,D<=k->k<W.heap.size->V.heap[k]?=W.heap[k]?)->W.heap.size<=V.heap.size->fc ob cap p V
theorem fc.heap{oa:Option bl}{cap:Nat}{p:bj}{W V:ac}(h:fc oa cap p W)(hb:∀k,k<W.heap.size->V.heap[k]?=W.heap[k]?)(F:W.heap.size<=V.heap.size):fc oa cap p V:=⟨⟨fun h0=>by obtain⟨b,off,q,h2,h3⟩:=h.bw.ez h0;refine⟨b,off,q,by omega,fun i r L=>?_⟩;obtain⟨dj,cc,hR⟩:=h3 i r L;have H:=fun j=>dt (hb b h2) j;exact⟨dj,cc,(H _).trans hR.k0,(H _).trans hR.k1,(H _).trans hR.k2,(H _).trans hR.k3,hR.bq.heap (fun b off e hb'=>hb b hb') F,hR.le,hR.cap,hR.ok⟩⟩,h.le,h.cap,h.ok⟩
theorem ajj{g O:Nat}{P:PV}{s:WS}{y:ag}{W:ac}(h:WX g O P s y W):ap ae 71 #[av (U ⟨g,0,ab⟩)] W fun e w'=>e=aq (av (U ⟨W.heap.size,0,ab⟩))/\fp W.heap.size s.mem w'/\aD W.heap.size W w':=by have HM:=aer h.mem;have cp:=h.ptr;clear h;go_enter func71,ntmps71;go_wp2_with fail;refine HM.mono ?_;rintro e w'⟨rfl,q,h2⟩;go_wp2;go_ret;exact⟨J,q,h2⟩
theorem abP{a_:Array bz}{rest:List bz}{o:bz}{a:Act}{w:ac}{aE:eK->Act->ac->Prop}(de:o.guard=ab)(x al:gr)(ho:o.op= .makeSlice 78 x al)(n:Nat)(hx:a.eval x=I R (n:Int))(hy:a.eval al=I R (n:Int))(u:n<=1000000)(h:∀c:Array ag,c.size=n*21->wpList ae a_ aE rest (a.put o.dst (ak (U ⟨w.heap.size,0,ab⟩) n n)) (w.alloc (.cells c 103))):wpList ae a_ aE (o::rest) a w:=by obtain⟨eq,d8,dh,dD,dz⟩:=NC;have L:=run_make (P:=ae) w 78 103 eq _ underlying78 d8 dh R R (n:Int) (n:Int) (by omega) (JQ _) (by rw[dz];omega) (by omega);rw[d_,dD]at L;refine vI de fun K A=>?_;unfold lk execOp;simp only[ho,hx,hy,xl,L,tW];exact A _ _ (h _ (FO _ _))
theorem ac2(l:List EN):∀v∈gk l,v.oneCell'=true:=by intro v hv;unfold gk at hv;obtain⟨e,_,he⟩:=List.mem_flatMap.1 hv;exact QY _ _ _ _ _ v he
set_option maxHeartbeats 1000000 in theorem afl{g O:Nat}{P:PV}{s:WS}{y:ag}{W:ac}(h:WX g O P s y W)(cQ:s.aX.length<=1000000):ap ae 74 #[av (U ⟨g,0,ab⟩)] W fun e w'=>e=aq (ak (U ⟨W.heap.size,0,ab⟩) s.aX.length s.aX.length)/\w'.heap[W.heap.size]?=U (.cells (gk s.aX).toArray 103 (0,0))/\aD W.heap.size W w':=by
 have hs:=h.gh;have c0:=h.D4;have HX:=aa h;obtain⟨aC,hL⟩:=af s.aX.length;obtain⟨d5,hF⟩:=af (gk s.aX);have ho:=h.cW;have q:∀v∈d5,v.oneCell'=true:=by rw[hF];exact ac2 _
 have bo:y.ownBlock≠U W.heap.size:=fun e=>by have:=(h.cW.lt _ e).2;omega
 rw[<-hL]at cQ;rw[<-hL,<-hF]at ho;rw[<-hL,<-hF];clear h hL hF;obtain⟨hFl,Pa⟩:=ho;have se:(ae.info? 103).map (·.size)=U 21:=Nu;rcases Pa with⟨rfl,rfl⟩|⟨gl,cap,co,rfl,-,eV,su,Q9,cH,lA⟩;.obtain rfl:d5=[]:=List.eq_nil_of_length_eq_zero (by omega);go_enter func74,ntmps74;go_wp2_with(first|(refine abP J _ _ J 0 J J (by omega) ?_;intro c H)|(refine ahw J _ _ 78 78 J 103 21 underlying78 se ⟨W.heap.size,0,ab⟩ 0 0 J J ?_));go_ret;refine⟨J,?_,ai _ _⟩;rw[show c=#[]from Array.eq_empty_of_size_eq_zero (by omega)];exact a7 W _
 .have qW:∀(c:Array ag)j v,d5[j]?=U v->(W.alloc (.cells c 103)).cell? ((⟨gl,0,ab⟩:bl).add j)=U v:=by
   intro c j v hj;rw[Addr.add_mid,ru];refine ao (ai W _) ?_;rw[aT _ _ j _ _ _ eV];have O6:j<aC*21:=by rw[<-hFl];exact(pb.1 hj).1
   rw[<-lA,List.getElem?_take,if_pos O6]at hj;simpa using hj
  have S:=fun c:Array ag=>aa (below_setRow (ai W (.cells c 103)) (aA _) d5.toArray);have HR:=fun c:Array ag=>aa (aV (W.alloc (.cells c 103)) W.heap.size c d5.toArray 103 (0,0) (a7 W _));have GE:=fun c:Array ag=>ao (ai W (.cells c 103)) c0;clear eV lA cH HX;go_enter func74,ntmps74;go_wp2_with(first|(refine abP J _ _ J aC J J cQ ?_;intro c H;replace GE:=GE c;replace S:=S c;replace HR:=HR c)|(refine ah4 J _ _ 78 78 J 103 21 underlying78 se W.heap.size aC aC ⟨gl,0,ab⟩ cap J J c 103 (a7 W _) d5 hFl H (qW c) q ?_));go_ret;exact⟨J,HR.out,S.out⟩
end Go.Proofs.YtefdakbahplnbaaGreatDoor
