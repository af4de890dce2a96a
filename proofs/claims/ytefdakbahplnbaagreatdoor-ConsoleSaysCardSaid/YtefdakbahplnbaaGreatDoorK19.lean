/- The document's condFault where the kind is right, and PolicyFault. -/
import Derived.Test.YtefdakbahplnbaaGreatDoorK18
import Derived.Test.YtefdakbahplnbaaGreatDoorK16
open Go.Proofs.Tryz
open Go renaming Calls->ap,World->ac,below_regrown->cN,cell_regrown->aJ,wpQuiet_nil->e6
open Go.Ending renaming returned->aq
open Go.IntKind renaming i64->R
open Go.Proofs.Tryz renaming prog->ae
open Go.Value renaming int->I
open List renaming getElem?_cons_zero->cT,getElem?_toArray->cK,map_append->mU,take_append_drop->AR,take_of_length_le->li
namespace Go.Proofs.YtefdakbahplnbaaGreatDoor
open Go.RowKit Go.Sort
set_option maxHeartbeats 8000000 in set_option maxRecDepth 100000 in theorem adI(nr a:Nat)(b0:nr<9)(ha:a<=3)(op:Int)(q:¬op<1)(h6:¬6<op)(v m:Nat)(g:ByteArray)(ip:Nat)(b lo hi:Int)(w:ac)(z:a1 nr a=1)(f:Nat)(vr:bO ⟨a,op,v,m,g,⟨ip,b,lo,hi⟩⟩->f=3)(oO:¬bO ⟨a,op,v,m,g,⟨ip,b,lo,hi⟩⟩->f=0):ap ae 44 #[I R nr,e9 ⟨a,op,v,m,g,⟨ip,b,lo,hi⟩⟩] w fun e w'=>e=aq (I R f)/\Below w.heap.size w w':=by
 have HK:=fun X=>wC nr a b0 (by omega) X;rw[z]at HK;have be:=aa vr;have b9:=aa oO;clear z vr oO b0;unfold e9;simp only;have i1:¬(a:Int)<0:=by omega
 have i2:¬3<(a:Int):=by omega
 have IW:¬op=7:=by omega
 have BF:¬op=8:=by omega
 have Gk:¬op=9:=by omega
 have WI:(op !=7)=true:=by simpa using IW
 have ap0:(op !=8)=true:=by simpa using BF
 have E4:(op !=9)=true:=by simpa using Gk
 have apD:¬7<op:=by omega
 have apY:¬9<op:=by omega
 by_cases hm:m=0
 .subst hm;by_cases hv:v=0
  .subst hv;by_cases hg:g.size=0
   .have pg:¬(0:Int)<g.size:=by omega
    by_cases bt:ip=0
    .subst bt;by_cases hb:b=0
     .subst hb;by_cases fW:lo=0
      .subst fW;by_cases jF:hi=0;.subst jF;have HF:=aa (show(f:Int)=0 by rw[b9.out (by unfold bO cB;first|(simp only;omega)|(simp;omega)|simp_all)];rfl);clear be b9;go_enter func44,ntmps44;go_wp2_with(first|(go_at_call 47;refine(HK _).mono ?_;rintro e X⟨rfl,rfl⟩));all_goals go_ret;exact⟨by rw[HF.out];rfl,ax (ai _ _) (ai _ _)⟩
       .have zQ:¬(hi:Int)=0:=by omega
        have HF:=aa (show(f:Int)=3 by rw[be.out (by unfold bO cB;first|(simp only;omega)|(simp;omega)|simp_all)];rfl);clear be b9;go_enter func44,ntmps44;go_wp2_with(first|(go_at_call 47;refine(HK _).mono ?_;rintro e X⟨rfl,rfl⟩));all_goals go_ret;exact⟨by rw[HF.out];rfl,ax (ai _ _) (ai _ _)⟩
      .have Aj:¬(lo:Int)=0:=by omega
       have HF:=aa (show(f:Int)=3 by rw[be.out (by unfold bO cB;first|(simp only;omega)|(simp;omega)|simp_all)];rfl);clear be b9;go_enter func44,ntmps44;go_wp2_with(first|(go_at_call 47;refine(HK _).mono ?_;rintro e X⟨rfl,rfl⟩));all_goals go_ret;exact⟨by rw[HF.out];rfl,ax (ai _ _) (ai _ _)⟩
     .have zf:¬(b:Int)=0:=by omega
      have HF:=aa (show(f:Int)=3 by rw[be.out (by unfold bO cB;first|(simp only;omega)|(simp;omega)|simp_all)];rfl);clear be b9;go_enter func44,ntmps44;go_wp2_with(first|(go_at_call 47;refine(HK _).mono ?_;rintro e X⟨rfl,rfl⟩));all_goals go_ret;exact⟨by rw[HF.out];rfl,ax (ai _ _) (ai _ _)⟩
    .have z':¬(ip:Int)=0:=by omega
     have HF:=aa (show(f:Int)=3 by rw[be.out (by unfold bO cB;first|(simp only;omega)|(simp;omega)|simp_all)];rfl);clear be b9;go_enter func44,ntmps44;go_wp2_with(first|(go_at_call 47;refine(HK _).mono ?_;rintro e X⟨rfl,rfl⟩));all_goals go_ret;exact⟨by rw[HF.out];rfl,ax (ai _ _) (ai _ _)⟩
   .have pg:(0:Int)<g.size:=by omega
    have HF:=aa (show(f:Int)=3 by rw[be.out (by unfold bO cB;first|(simp only;omega)|(simp;omega)|simp_all)];rfl);clear be b9;go_enter func44,ntmps44;go_wp2_with(first|(go_at_call 47;refine(HK _).mono ?_;rintro e X⟨rfl,rfl⟩));all_goals go_ret;exact⟨by rw[HF.out];rfl,ax (ai _ _) (ai _ _)⟩
  .have ym:(0:Int)<v:=by omega
   by_cases hg:g.size=0
   .have pg:¬(0:Int)<g.size:=by omega
    by_cases bt:ip=0
    .subst bt;by_cases hb:b=0
     .subst hb;by_cases fW:lo=0
      .subst fW;by_cases jF:hi=0;.subst jF;have HF:=aa (show(f:Int)=0 by rw[b9.out (by unfold bO cB;first|(simp only;omega)|(simp;omega)|simp_all)];rfl);clear be b9;go_enter func44,ntmps44;go_wp2_with(first|(go_at_call 47;refine(HK _).mono ?_;rintro e X⟨rfl,rfl⟩));all_goals go_ret;exact⟨by rw[HF.out];rfl,ax (ai _ _) (ai _ _)⟩
       .have zQ:¬(hi:Int)=0:=by omega
        have HF:=aa (show(f:Int)=3 by rw[be.out (by unfold bO cB;first|(simp only;omega)|(simp;omega)|simp_all)];rfl);clear be b9;go_enter func44,ntmps44;go_wp2_with(first|(go_at_call 47;refine(HK _).mono ?_;rintro e X⟨rfl,rfl⟩));all_goals go_ret;exact⟨by rw[HF.out];rfl,ax (ai _ _) (ai _ _)⟩
      .have Aj:¬(lo:Int)=0:=by omega
       have HF:=aa (show(f:Int)=3 by rw[be.out (by unfold bO cB;first|(simp only;omega)|(simp;omega)|simp_all)];rfl);clear be b9;go_enter func44,ntmps44;go_wp2_with(first|(go_at_call 47;refine(HK _).mono ?_;rintro e X⟨rfl,rfl⟩));all_goals go_ret;exact⟨by rw[HF.out];rfl,ax (ai _ _) (ai _ _)⟩
     .have zf:¬(b:Int)=0:=by omega
      have HF:=aa (show(f:Int)=3 by rw[be.out (by unfold bO cB;first|(simp only;omega)|(simp;omega)|simp_all)];rfl);clear be b9;go_enter func44,ntmps44;go_wp2_with(first|(go_at_call 47;refine(HK _).mono ?_;rintro e X⟨rfl,rfl⟩));all_goals go_ret;exact⟨by rw[HF.out];rfl,ax (ai _ _) (ai _ _)⟩
    .have z':¬(ip:Int)=0:=by omega
     have HF:=aa (show(f:Int)=3 by rw[be.out (by unfold bO cB;first|(simp only;omega)|(simp;omega)|simp_all)];rfl);clear be b9;go_enter func44,ntmps44;go_wp2_with(first|(go_at_call 47;refine(HK _).mono ?_;rintro e X⟨rfl,rfl⟩));all_goals go_ret;exact⟨by rw[HF.out];rfl,ax (ai _ _) (ai _ _)⟩
   .have pg:(0:Int)<g.size:=by omega
    have HF:=aa (show(f:Int)=3 by rw[be.out (by unfold bO cB;first|(simp only;omega)|(simp;omega)|simp_all)];rfl);clear be b9;go_enter func44,ntmps44;go_wp2_with(first|(go_at_call 47;refine(HK _).mono ?_;rintro e X⟨rfl,rfl⟩));all_goals go_ret;exact⟨by rw[HF.out];rfl,ax (ai _ _) (ai _ _)⟩
 .have QV:(0:Int)<m:=by omega
  have HF:=aa (show(f:Int)=3 by rw[be.out (by unfold bO cB;first|(simp only;omega)|(simp;omega)|simp_all)];rfl);clear be b9;go_enter func44,ntmps44;go_wp2_with(first|(go_at_call 47;refine(HK _).mono ?_;rintro e X⟨rfl,rfl⟩));all_goals go_ret;exact⟨by rw[HF.out];rfl,ax (ai _ _) (ai _ _)⟩
set_option maxHeartbeats 8000000 in set_option maxRecDepth 100000 in theorem aeN(nr a:Nat)(b0:nr<9)(ha:a<=3)(v m:Nat)(g:ByteArray)(ip:Nat)(b lo hi:Int)(w:ac)(z:a1 nr a=1)(f:Nat)(vr:bO ⟨a,7,v,m,g,⟨ip,b,lo,hi⟩⟩->f=3)(oO:¬bO ⟨a,7,v,m,g,⟨ip,b,lo,hi⟩⟩->f=0):ap ae 44 #[I R nr,e9 ⟨a,7,v,m,g,⟨ip,b,lo,hi⟩⟩] w fun e w'=>e=aq (I R f)/\Below w.heap.size w w':=by
 have HK:=fun X=>wC nr a b0 (by omega) X;rw[z]at HK;have be:=aa vr;have b9:=aa oO;clear z vr oO b0;unfold e9;simp only;have i1:¬(a:Int)<0:=by omega
 have i2:¬3<(a:Int):=by omega
 by_cases hm:m=0
 .subst hm;by_cases hv:v=0
  .subst hv;by_cases hg:g.size=0
   .have pg:¬(0:Int)<g.size:=by omega
    by_cases bt:ip=0
    .subst bt;by_cases hb:b=0
     .subst hb;by_cases fW:lo=0
      .subst fW;by_cases jF:hi=0;.subst jF;have HF:=aa (show(f:Int)=0 by rw[b9.out (by unfold bO cB;first|(simp only;omega)|(simp;omega)|simp_all)];rfl);clear be b9;go_enter func44,ntmps44;go_wp2_with(first|(go_at_call 47;refine(HK _).mono ?_;rintro e X⟨rfl,rfl⟩));all_goals go_ret;exact⟨by rw[HF.out];rfl,ax (ai _ _) (ai _ _)⟩
       .have zQ:¬(hi:Int)=0:=by omega
        have HF:=aa (show(f:Int)=3 by rw[be.out (by unfold bO cB;first|(simp only;omega)|(simp;omega)|simp_all)];rfl);clear be b9;go_enter func44,ntmps44;go_wp2_with(first|(go_at_call 47;refine(HK _).mono ?_;rintro e X⟨rfl,rfl⟩));all_goals go_ret;exact⟨by rw[HF.out];rfl,ax (ai _ _) (ai _ _)⟩
      .have Aj:¬(lo:Int)=0:=by omega
       have HF:=aa (show(f:Int)=3 by rw[be.out (by unfold bO cB;first|(simp only;omega)|(simp;omega)|simp_all)];rfl);clear be b9;go_enter func44,ntmps44;go_wp2_with(first|(go_at_call 47;refine(HK _).mono ?_;rintro e X⟨rfl,rfl⟩));all_goals go_ret;exact⟨by rw[HF.out];rfl,ax (ai _ _) (ai _ _)⟩
     .have zf:¬(b:Int)=0:=by omega
      have HF:=aa (show(f:Int)=3 by rw[be.out (by unfold bO cB;first|(simp only;omega)|(simp;omega)|simp_all)];rfl);clear be b9;go_enter func44,ntmps44;go_wp2_with(first|(go_at_call 47;refine(HK _).mono ?_;rintro e X⟨rfl,rfl⟩));all_goals go_ret;exact⟨by rw[HF.out];rfl,ax (ai _ _) (ai _ _)⟩
    .have z':¬(ip:Int)=0:=by omega
     have HF:=aa (show(f:Int)=3 by rw[be.out (by unfold bO cB;first|(simp only;omega)|(simp;omega)|simp_all)];rfl);clear be b9;go_enter func44,ntmps44;go_wp2_with(first|(go_at_call 47;refine(HK _).mono ?_;rintro e X⟨rfl,rfl⟩));all_goals go_ret;exact⟨by rw[HF.out];rfl,ax (ai _ _) (ai _ _)⟩
   .have pg:(0:Int)<g.size:=by omega
    have HF:=aa (show(f:Int)=3 by rw[be.out (by unfold bO cB;first|(simp only;omega)|(simp;omega)|simp_all)];rfl);clear be b9;go_enter func44,ntmps44;go_wp2_with(first|(go_at_call 47;refine(HK _).mono ?_;rintro e X⟨rfl,rfl⟩));all_goals go_ret;exact⟨by rw[HF.out];rfl,ax (ai _ _) (ai _ _)⟩
  .have ym:(0:Int)<v:=by omega
   by_cases hg:g.size=0
   .have pg:¬(0:Int)<g.size:=by omega
    by_cases bt:ip=0
    .subst bt;by_cases hb:b=0
     .subst hb;by_cases fW:lo=0
      .subst fW;by_cases jF:hi=0;.subst jF;have HF:=aa (show(f:Int)=0 by rw[b9.out (by unfold bO cB;first|(simp only;omega)|(simp;omega)|simp_all)];rfl);clear be b9;go_enter func44,ntmps44;go_wp2_with(first|(go_at_call 47;refine(HK _).mono ?_;rintro e X⟨rfl,rfl⟩));all_goals go_ret;exact⟨by rw[HF.out];rfl,ax (ai _ _) (ai _ _)⟩
       .have zQ:¬(hi:Int)=0:=by omega
        have HF:=aa (show(f:Int)=3 by rw[be.out (by unfold bO cB;first|(simp only;omega)|(simp;omega)|simp_all)];rfl);clear be b9;go_enter func44,ntmps44;go_wp2_with(first|(go_at_call 47;refine(HK _).mono ?_;rintro e X⟨rfl,rfl⟩));all_goals go_ret;exact⟨by rw[HF.out];rfl,ax (ai _ _) (ai _ _)⟩
      .have Aj:¬(lo:Int)=0:=by omega
       have HF:=aa (show(f:Int)=3 by rw[be.out (by unfold bO cB;first|(simp only;omega)|(simp;omega)|simp_all)];rfl);clear be b9;go_enter func44,ntmps44;go_wp2_with(first|(go_at_call 47;refine(HK _).mono ?_;rintro e X⟨rfl,rfl⟩));all_goals go_ret;exact⟨by rw[HF.out];rfl,ax (ai _ _) (ai _ _)⟩
     .have zf:¬(b:Int)=0:=by omega
      have HF:=aa (show(f:Int)=3 by rw[be.out (by unfold bO cB;first|(simp only;omega)|(simp;omega)|simp_all)];rfl);clear be b9;go_enter func44,ntmps44;go_wp2_with(first|(go_at_call 47;refine(HK _).mono ?_;rintro e X⟨rfl,rfl⟩));all_goals go_ret;exact⟨by rw[HF.out];rfl,ax (ai _ _) (ai _ _)⟩
    .have z':¬(ip:Int)=0:=by omega
     have HF:=aa (show(f:Int)=3 by rw[be.out (by unfold bO cB;first|(simp only;omega)|(simp;omega)|simp_all)];rfl);clear be b9;go_enter func44,ntmps44;go_wp2_with(first|(go_at_call 47;refine(HK _).mono ?_;rintro e X⟨rfl,rfl⟩));all_goals go_ret;exact⟨by rw[HF.out];rfl,ax (ai _ _) (ai _ _)⟩
   .have pg:(0:Int)<g.size:=by omega
    have HF:=aa (show(f:Int)=3 by rw[be.out (by unfold bO cB;first|(simp only;omega)|(simp;omega)|simp_all)];rfl);clear be b9;go_enter func44,ntmps44;go_wp2_with(first|(go_at_call 47;refine(HK _).mono ?_;rintro e X⟨rfl,rfl⟩));all_goals go_ret;exact⟨by rw[HF.out];rfl,ax (ai _ _) (ai _ _)⟩
 .have QV:(0:Int)<m:=by omega
  by_cases hv:v=0
  .subst hv;by_cases hg:g.size=0
   .have pg:¬(0:Int)<g.size:=by omega
    by_cases bt:ip=0
    .subst bt;by_cases hb:b=0
     .subst hb;by_cases fW:lo=0
      .subst fW;by_cases jF:hi=0;.subst jF;have HF:=aa (show(f:Int)=0 by rw[b9.out (by unfold bO cB;first|(simp only;omega)|(simp;omega)|simp_all)];rfl);clear be b9;go_enter func44,ntmps44;go_wp2_with(first|(go_at_call 47;refine(HK _).mono ?_;rintro e X⟨rfl,rfl⟩));all_goals go_ret;exact⟨by rw[HF.out];rfl,ax (ai _ _) (ai _ _)⟩
       .have zQ:¬(hi:Int)=0:=by omega
        have HF:=aa (show(f:Int)=3 by rw[be.out (by unfold bO cB;first|(simp only;omega)|(simp;omega)|simp_all)];rfl);clear be b9;go_enter func44,ntmps44;go_wp2_with(first|(go_at_call 47;refine(HK _).mono ?_;rintro e X⟨rfl,rfl⟩));all_goals go_ret;exact⟨by rw[HF.out];rfl,ax (ai _ _) (ai _ _)⟩
      .have Aj:¬(lo:Int)=0:=by omega
       have HF:=aa (show(f:Int)=3 by rw[be.out (by unfold bO cB;first|(simp only;omega)|(simp;omega)|simp_all)];rfl);clear be b9;go_enter func44,ntmps44;go_wp2_with(first|(go_at_call 47;refine(HK _).mono ?_;rintro e X⟨rfl,rfl⟩));all_goals go_ret;exact⟨by rw[HF.out];rfl,ax (ai _ _) (ai _ _)⟩
     .have zf:¬(b:Int)=0:=by omega
      have HF:=aa (show(f:Int)=3 by rw[be.out (by unfold bO cB;first|(simp only;omega)|(simp;omega)|simp_all)];rfl);clear be b9;go_enter func44,ntmps44;go_wp2_with(first|(go_at_call 47;refine(HK _).mono ?_;rintro e X⟨rfl,rfl⟩));all_goals go_ret;exact⟨by rw[HF.out];rfl,ax (ai _ _) (ai _ _)⟩
    .have z':¬(ip:Int)=0:=by omega
     have HF:=aa (show(f:Int)=3 by rw[be.out (by unfold bO cB;first|(simp only;omega)|(simp;omega)|simp_all)];rfl);clear be b9;go_enter func44,ntmps44;go_wp2_with(first|(go_at_call 47;refine(HK _).mono ?_;rintro e X⟨rfl,rfl⟩));all_goals go_ret;exact⟨by rw[HF.out];rfl,ax (ai _ _) (ai _ _)⟩
   .have pg:(0:Int)<g.size:=by omega
    have HF:=aa (show(f:Int)=3 by rw[be.out (by unfold bO cB;first|(simp only;omega)|(simp;omega)|simp_all)];rfl);clear be b9;go_enter func44,ntmps44;go_wp2_with(first|(go_at_call 47;refine(HK _).mono ?_;rintro e X⟨rfl,rfl⟩));all_goals go_ret;exact⟨by rw[HF.out];rfl,ax (ai _ _) (ai _ _)⟩
  .have ym:(0:Int)<v:=by omega
   by_cases hg:g.size=0
   .have pg:¬(0:Int)<g.size:=by omega
    by_cases bt:ip=0
    .subst bt;by_cases hb:b=0
     .subst hb;by_cases fW:lo=0
      .subst fW;by_cases jF:hi=0;.subst jF;have HF:=aa (show(f:Int)=0 by rw[b9.out (by unfold bO cB;first|(simp only;omega)|(simp;omega)|simp_all)];rfl);clear be b9;go_enter func44,ntmps44;go_wp2_with(first|(go_at_call 47;refine(HK _).mono ?_;rintro e X⟨rfl,rfl⟩));all_goals go_ret;exact⟨by rw[HF.out];rfl,ax (ai _ _) (ai _ _)⟩
       .have zQ:¬(hi:Int)=0:=by omega
        have HF:=aa (show(f:Int)=3 by rw[be.out (by unfold bO cB;first|(simp only;omega)|(simp;omega)|simp_all)];rfl);clear be b9;go_enter func44,ntmps44;go_wp2_with(first|(go_at_call 47;refine(HK _).mono ?_;rintro e X⟨rfl,rfl⟩));all_goals go_ret;exact⟨by rw[HF.out];rfl,ax (ai _ _) (ai _ _)⟩
      .have Aj:¬(lo:Int)=0:=by omega
       have HF:=aa (show(f:Int)=3 by rw[be.out (by unfold bO cB;first|(simp only;omega)|(simp;omega)|simp_all)];rfl);clear be b9;go_enter func44,ntmps44;go_wp2_with(first|(go_at_call 47;refine(HK _).mono ?_;rintro e X⟨rfl,rfl⟩));all_goals go_ret;exact⟨by rw[HF.out];rfl,ax (ai _ _) (ai _ _)⟩
     .have zf:¬(b:Int)=0:=by omega
      have HF:=aa (show(f:Int)=3 by rw[be.out (by unfold bO cB;first|(simp only;omega)|(simp;omega)|simp_all)];rfl);clear be b9;go_enter func44,ntmps44;go_wp2_with(first|(go_at_call 47;refine(HK _).mono ?_;rintro e X⟨rfl,rfl⟩));all_goals go_ret;exact⟨by rw[HF.out];rfl,ax (ai _ _) (ai _ _)⟩
    .have z':¬(ip:Int)=0:=by omega
     have HF:=aa (show(f:Int)=3 by rw[be.out (by unfold bO cB;first|(simp only;omega)|(simp;omega)|simp_all)];rfl);clear be b9;go_enter func44,ntmps44;go_wp2_with(first|(go_at_call 47;refine(HK _).mono ?_;rintro e X⟨rfl,rfl⟩));all_goals go_ret;exact⟨by rw[HF.out];rfl,ax (ai _ _) (ai _ _)⟩
   .have pg:(0:Int)<g.size:=by omega
    have HF:=aa (show(f:Int)=3 by rw[be.out (by unfold bO cB;first|(simp only;omega)|(simp;omega)|simp_all)];rfl);clear be b9;go_enter func44,ntmps44;go_wp2_with(first|(go_at_call 47;refine(HK _).mono ?_;rintro e X⟨rfl,rfl⟩));all_goals go_ret;exact⟨by rw[HF.out];rfl,ax (ai _ _) (ai _ _)⟩
set_option maxHeartbeats 8000000 in set_option maxRecDepth 100000 in theorem akO(nr a:Nat)(b0:nr<9)(ha:a<=3)(v m:Nat)(g:ByteArray)(ip:Nat)(b lo hi:Int)(w:ac)(z:a1 nr a=2)(f:Nat)(vr:bO ⟨a,8,v,m,g,⟨ip,b,lo,hi⟩⟩->f=3)(oO:¬bO ⟨a,8,v,m,g,⟨ip,b,lo,hi⟩⟩->f=nA g):ap ae 44 #[I R nr,e9 ⟨a,8,v,m,g,⟨ip,b,lo,hi⟩⟩] w fun e w'=>e=aq (I R f)/\Below w.heap.size w w':=by
 have HK:=fun X=>wC nr a b0 (by omega) X;rw[z]at HK;have be:=aa vr;have b9:=aa oO;clear z vr oO b0;unfold e9;simp only;have i1:¬(a:Int)<0:=by omega
 have i2:¬3<(a:Int):=by omega
 by_cases hm:m=0
 .subst hm;by_cases hv:v=0
  .subst hv;by_cases hg:g.size=0
   .have pg:¬(0:Int)<g.size:=by omega
    by_cases bt:ip=0
    .subst bt;by_cases hb:b=0
     .subst hb;by_cases fW:lo=0
      .subst fW;by_cases jF:hi=0;.subst jF;have HF:=aa (b9.out (by unfold bO cB;first|(simp only;omega)|(simp;omega)|simp_all));have HG:=fun X=>abi g X;clear be b9;go_enter func44,ntmps44;go_wp2_with(first|(go_at_call 47;refine(HK _).mono ?_;rintro e X⟨rfl,rfl⟩)|(go_at_call 76;refine(HG _).mono ?_;rintro e X⟨rfl,hX⟩));all_goals go_ret;exact⟨by rw[HF.out];rfl,ax (ax (ai _ _) (ai _ _)) hX⟩
       .have zQ:¬(hi:Int)=0:=by omega
        have HF:=aa (show(f:Int)=3 by rw[be.out (by unfold bO cB;first|(simp only;omega)|(simp;omega)|simp_all)];rfl);clear be b9;go_enter func44,ntmps44;go_wp2_with(first|(go_at_call 47;refine(HK _).mono ?_;rintro e X⟨rfl,rfl⟩));all_goals go_ret;exact⟨by rw[HF.out];rfl,ax (ai _ _) (ai _ _)⟩
      .have Aj:¬(lo:Int)=0:=by omega
       have HF:=aa (show(f:Int)=3 by rw[be.out (by unfold bO cB;first|(simp only;omega)|(simp;omega)|simp_all)];rfl);clear be b9;go_enter func44,ntmps44;go_wp2_with(first|(go_at_call 47;refine(HK _).mono ?_;rintro e X⟨rfl,rfl⟩));all_goals go_ret;exact⟨by rw[HF.out];rfl,ax (ai _ _) (ai _ _)⟩
     .have zf:¬(b:Int)=0:=by omega
      have HF:=aa (show(f:Int)=3 by rw[be.out (by unfold bO cB;first|(simp only;omega)|(simp;omega)|simp_all)];rfl);clear be b9;go_enter func44,ntmps44;go_wp2_with(first|(go_at_call 47;refine(HK _).mono ?_;rintro e X⟨rfl,rfl⟩));all_goals go_ret;exact⟨by rw[HF.out];rfl,ax (ai _ _) (ai _ _)⟩
    .have z':¬(ip:Int)=0:=by omega
     have HF:=aa (show(f:Int)=3 by rw[be.out (by unfold bO cB;first|(simp only;omega)|(simp;omega)|simp_all)];rfl);clear be b9;go_enter func44,ntmps44;go_wp2_with(first|(go_at_call 47;refine(HK _).mono ?_;rintro e X⟨rfl,rfl⟩));all_goals go_ret;exact⟨by rw[HF.out];rfl,ax (ai _ _) (ai _ _)⟩
   .have pg:(0:Int)<g.size:=by omega
    by_cases bt:ip=0
    .subst bt;by_cases hb:b=0
     .subst hb;by_cases fW:lo=0
      .subst fW;by_cases jF:hi=0;.subst jF;have HF:=aa (b9.out (by unfold bO cB;first|(simp only;omega)|(simp;omega)|simp_all));have HG:=fun X=>abi g X;clear be b9;go_enter func44,ntmps44;go_wp2_with(first|(go_at_call 47;refine(HK _).mono ?_;rintro e X⟨rfl,rfl⟩)|(go_at_call 76;refine(HG _).mono ?_;rintro e X⟨rfl,hX⟩));all_goals go_ret;exact⟨by rw[HF.out];rfl,ax (ax (ai _ _) (ai _ _)) hX⟩
       .have zQ:¬(hi:Int)=0:=by omega
        have HF:=aa (show(f:Int)=3 by rw[be.out (by unfold bO cB;first|(simp only;omega)|(simp;omega)|simp_all)];rfl);clear be b9;go_enter func44,ntmps44;go_wp2_with(first|(go_at_call 47;refine(HK _).mono ?_;rintro e X⟨rfl,rfl⟩));all_goals go_ret;exact⟨by rw[HF.out];rfl,ax (ai _ _) (ai _ _)⟩
      .have Aj:¬(lo:Int)=0:=by omega
       have HF:=aa (show(f:Int)=3 by rw[be.out (by unfold bO cB;first|(simp only;omega)|(simp;omega)|simp_all)];rfl);clear be b9;go_enter func44,ntmps44;go_wp2_with(first|(go_at_call 47;refine(HK _).mono ?_;rintro e X⟨rfl,rfl⟩));all_goals go_ret;exact⟨by rw[HF.out];rfl,ax (ai _ _) (ai _ _)⟩
     .have zf:¬(b:Int)=0:=by omega
      have HF:=aa (show(f:Int)=3 by rw[be.out (by unfold bO cB;first|(simp only;omega)|(simp;omega)|simp_all)];rfl);clear be b9;go_enter func44,ntmps44;go_wp2_with(first|(go_at_call 47;refine(HK _).mono ?_;rintro e X⟨rfl,rfl⟩));all_goals go_ret;exact⟨by rw[HF.out];rfl,ax (ai _ _) (ai _ _)⟩
    .have z':¬(ip:Int)=0:=by omega
     have HF:=aa (show(f:Int)=3 by rw[be.out (by unfold bO cB;first|(simp only;omega)|(simp;omega)|simp_all)];rfl);clear be b9;go_enter func44,ntmps44;go_wp2_with(first|(go_at_call 47;refine(HK _).mono ?_;rintro e X⟨rfl,rfl⟩));all_goals go_ret;exact⟨by rw[HF.out];rfl,ax (ai _ _) (ai _ _)⟩
  .have ym:(0:Int)<v:=by omega
   have HF:=aa (show(f:Int)=3 by rw[be.out (by unfold bO cB;first|(simp only;omega)|(simp;omega)|simp_all)];rfl);clear be b9;go_enter func44,ntmps44;go_wp2_with(first|(go_at_call 47;refine(HK _).mono ?_;rintro e X⟨rfl,rfl⟩));all_goals go_ret;exact⟨by rw[HF.out];rfl,ax (ai _ _) (ai _ _)⟩
 .have QV:(0:Int)<m:=by omega
  have HF:=aa (show(f:Int)=3 by rw[be.out (by unfold bO cB;first|(simp only;omega)|(simp;omega)|simp_all)];rfl);clear be b9;go_enter func44,ntmps44;go_wp2_with(first|(go_at_call 47;refine(HK _).mono ?_;rintro e X⟨rfl,rfl⟩));all_goals go_ret;exact⟨by rw[HF.out];rfl,ax (ai _ _) (ai _ _)⟩
set_option maxHeartbeats 8000000 in set_option maxRecDepth 100000 in theorem amN(nr a:Nat)(b0:nr<9)(ha:a<=3)(v m:Nat)(g:ByteArray)(ip:Nat)(b lo hi:Int)(H:LF ⟨ip,b,lo,hi⟩)(w:ac)(z:a1 nr a=3)(f:Nat)(vr:bO ⟨a,9,v,m,g,⟨ip,b,lo,hi⟩⟩->f=3)(oO:¬bO ⟨a,9,v,m,g,⟨ip,b,lo,hi⟩⟩->f=cf ip b lo hi):ap ae 44 #[I R nr,e9 ⟨a,9,v,m,g,⟨ip,b,lo,hi⟩⟩] w fun e w'=>e=aq (I R f)/\Below w.heap.size w w':=by
 have HK:=fun X=>wC nr a b0 (by omega) X;rw[z]at HK;have HG:=fun X=>Fb ip H.ip b lo hi H.bits H.lo H.hi X;unfold oQ at HG;obtain⟨rj,n6⟩:=af (cf ip b lo hi);rw[<-n6]at HG oO;clear n6 H;have be:=aa vr;have b9:=aa oO;clear z vr oO b0;unfold e9;simp only;have i1:¬(a:Int)<0:=by omega
 have i2:¬3<(a:Int):=by omega
 by_cases hm:m=0
 .subst hm;by_cases hv:v=0
  .subst hv;by_cases hg:g.size=0
   .have pg:¬(0:Int)<g.size:=by omega
    by_cases bt:ip=0;case neg=>
     have z':¬(ip:Int)=0:=by omega
     have HF:=aa (b9.out (by unfold bO cB;first|(simp only;omega)|(simp;omega)|simp_all));clear be b9;go_enter func44,ntmps44;go_wp2_with(first|(go_at_call 47;refine(HK _).mono ?_;rintro e X⟨rfl,rfl⟩)|(go_at_call 77;refine(HG _).mono ?_;rintro e X⟨rfl,hX⟩));all_goals go_ret;exact⟨by rw[HF.out];rfl,ax (ax (ai _ _) (ai _ _)) hX⟩
    subst bt;have hz:((0:Nat):Int)=0:=J;try simp only[hz]at HG
    clear hz;by_cases hb:b=0;case neg=>
     have zf:¬(b:Int)=0:=by omega
     have HF:=aa (b9.out (by unfold bO cB;first|(simp only;omega)|(simp;omega)|simp_all));clear be b9;go_enter func44,ntmps44;go_wp2_with(first|(go_at_call 47;refine(HK _).mono ?_;rintro e X⟨rfl,rfl⟩)|(go_at_call 77;refine(HG _).mono ?_;rintro e X⟨rfl,hX⟩));all_goals go_ret;exact⟨by rw[HF.out];rfl,ax (ax (ai _ _) (ai _ _)) hX⟩
    subst hb;by_cases fW:lo=0;case neg=>
     have Aj:¬(lo:Int)=0:=by omega
     have HF:=aa (b9.out (by unfold bO cB;first|(simp only;omega)|(simp;omega)|simp_all));clear be b9;go_enter func44,ntmps44;go_wp2_with(first|(go_at_call 47;refine(HK _).mono ?_;rintro e X⟨rfl,rfl⟩)|(go_at_call 77;refine(HG _).mono ?_;rintro e X⟨rfl,hX⟩));all_goals go_ret;exact⟨by rw[HF.out];rfl,ax (ax (ai _ _) (ai _ _)) hX⟩
    subst fW;by_cases jF:hi=0;case neg=>
     have zQ:¬(hi:Int)=0:=by omega
     have HF:=aa (b9.out (by unfold bO cB;first|(simp only;omega)|(simp;omega)|simp_all));clear be b9;go_enter func44,ntmps44;go_wp2_with(first|(go_at_call 47;refine(HK _).mono ?_;rintro e X⟨rfl,rfl⟩)|(go_at_call 77;refine(HG _).mono ?_;rintro e X⟨rfl,hX⟩));all_goals go_ret;exact⟨by rw[HF.out];rfl,ax (ax (ai _ _) (ai _ _)) hX⟩
    subst jF;have HF:=aa (b9.out (by unfold bO cB;first|(simp only;omega)|(simp;omega)|simp_all));clear be b9;go_enter func44,ntmps44;go_wp2_with(first|(go_at_call 47;refine(HK _).mono ?_;rintro e X⟨rfl,rfl⟩)|(go_at_call 77;refine(HG _).mono ?_;rintro e X⟨rfl,hX⟩));all_goals go_ret;exact⟨by rw[HF.out];rfl,ax (ax (ai _ _) (ai _ _)) hX⟩
   .have pg:(0:Int)<g.size:=by omega
    have HF:=aa (show(f:Int)=3 by rw[be.out (by unfold bO cB;first|(simp only;omega)|(simp;omega)|simp_all)];rfl);clear be b9;go_enter func44,ntmps44;go_wp2_with(first|(go_at_call 47;refine(HK _).mono ?_;rintro e X⟨rfl,rfl⟩));all_goals go_ret;exact⟨by rw[HF.out];rfl,ax (ai _ _) (ai _ _)⟩
  .have ym:(0:Int)<v:=by omega
   have HF:=aa (show(f:Int)=3 by rw[be.out (by unfold bO cB;first|(simp only;omega)|(simp;omega)|simp_all)];rfl);clear be b9;go_enter func44,ntmps44;go_wp2_with(first|(go_at_call 47;refine(HK _).mono ?_;rintro e X⟨rfl,rfl⟩));all_goals go_ret;exact⟨by rw[HF.out];rfl,ax (ai _ _) (ai _ _)⟩
 .have QV:(0:Int)<m:=by omega
  have HF:=aa (show(f:Int)=3 by rw[be.out (by unfold bO cB;first|(simp only;omega)|(simp;omega)|simp_all)];rfl);clear be b9;go_enter func44,ntmps44;go_wp2_with(first|(go_at_call 47;refine(HK _).mono ?_;rintro e X⟨rfl,rfl⟩));all_goals go_ret;exact⟨by rw[HF.out];rfl,ax (ai _ _) (ai _ _)⟩
theorem alX(nr:Nat)(b0:nr<9)(c:CD)(H:jJ c)(w:ac):ap ae 44 #[I R nr,e9 c] w fun e w'=>e=aq (I R (hK nr c))/\Below w.heap.size w w':=by
 by_cases h:c.a6<0\/3<c.a6\/c.op<1\/9<c.op;.rw[show hK nr c=1 from if_pos h];exact aoZ nr c w h
 have M:hK nr c=if a1 nr c.a6.toNat≠fA c.op\/bO c then 3 else if c.op=8 then nA c.ny else if c.op=9 then RM c.dr else 0:=if_neg h;obtain⟨a6,op,v,m,g,⟨ip,b,lo,hi⟩⟩:=c;simp only[not_or]at h M;obtain⟨a,rfl⟩:∃a:Nat,a6=a:=⟨a6.toNat,by omega⟩;have ha:a<=3:=by omega
 rw[Int.toNat_natCast]at M;by_cases z:a1 nr a=fA op
 .have h3:bO ⟨a,op,v,m,g,⟨ip,b,lo,hi⟩⟩->hK nr ⟨a,op,v,m,g,⟨ip,b,lo,hi⟩⟩=3:=fun hu=>by rw[M,if_pos (.inr hu)]
  have h0:¬bO ⟨a,op,v,m,g,⟨ip,b,lo,hi⟩⟩->hK nr ⟨a,op,v,m,g,⟨ip,b,lo,hi⟩⟩=if op=8 then nA g else if op=9 then cf ip b lo hi else 0:=fun hu=>by rw[M,if_neg (by rw[not_or];exact⟨fun H=>H z,hu⟩)];rfl
  by_cases h8:op=8;.subst h8;exact akO nr a b0 ha v m g ip b lo hi w z _ h3 h0
  by_cases h9:op=9;.subst h9;exact amN nr a b0 ha v m g ip b lo hi H.dr w z _ h3 h0
  have dY:a1 nr a=1:=by rw[z];unfold fA;rw[if_neg h8,if_neg h9]
  rw[if_neg h8,if_neg h9]at h0;by_cases h7:op=7;.subst h7;exact aeN nr a b0 ha v m g ip b lo hi w dY _ h3 h0
  .exact adI nr a b0 ha op h.2.2.1 (by omega) v m g ip b lo hi w dY _ h3 h0
 .rw[M,if_pos (.inl z)];exact akL nr a b0 ha op v m g ip b lo hi h.2.2.1 h.2.2.2 w z
theorem Kv{rs:List RL}{i f:Nat}(h:e_ ((rs.take i).map g_)=f)(M:f≠0):e_ (rs.map g_)=f:=by rw[<-AR i rs,mU,yr,if_neg (by rw[h];exact M),h]
theorem amX{cs:List CD}{k i f:Nat}(h:e_ ((cs.take i).map (hK k))=f)(M:f≠0):e_ (cs.map (hK k))=f:=by rw[<-AR i cs,mU,yr,if_neg (by rw[h];exact M),h]
set_option maxHeartbeats 4000000 in set_option maxRecDepth 100000 in theorem akg(p:bj)(oa:Option Addr)(cap:Nat)(w:ac)(h:fc oa cap p w):ap ae 17 #[ep p oa cap] w fun e w'=>e=aq (I R (cM p))/\Below w.heap.size w w':=by
 obtain⟨n,u⟩:=af p.bw.length;have G:=aa (zg h n u);have Dl:n<=9223372036854775807:=by have q:=h.le;have h2:=h.cap;unfold maxLen at h2;omega
 clear h;obtain⟨rs,⟨aN,aP⟩⟩:=p;unfold ep;simp only at G u⊢;rw[<-u];have dn:cM ⟨rs,⟨aN,aP⟩⟩=if 12<n then 2 else if dl ⟨aN,aP⟩=0 then e_ (rs.map g_)else dl ⟨aN,aP⟩:=by rw[u];rfl
 obtain⟨pf,qK⟩:=af (cM ⟨rs,⟨aN,aP⟩⟩);rw[<-qK]at dn⊢;clear qK;by_cases eL:12<n;.have HF:=aa (show(pf:Int)=2 by rw[dn,if_pos eL];rfl);clear dn u;go_enter func17,ntmps17;go_wp2;go_ret;exact⟨by rw[HF.out];rfl,ai _ _⟩
 rw[if_neg eL]at dn;have HA:=fun X=>abU ⟨aN,aP⟩ X;obtain⟨f0,M⟩:=af (dl ⟨aN,aP⟩);rw[<-M]at HA dn;have HF:=aa dn;have HN:=aa u;have HL:=aa (show∀i,i<n->∃c,rs[i]?=some c/\rs.take (i+1)=rs.take i++[c]from fun i h=>uD (by omega));clear dn u M;unfold fe at HA;simp only at HA;obtain⟨V,hV,hB,cP,hx⟩:=eN w #[.slice oa n cap,I R aN,I R aP] 32;have x0:=hx 0;simp only[cK,cT]at x0;clear hx;by_cases dh:f0=0;case neg=>
  have p0:(0:Int)<f0:=by omega
  have HE:=aa (show pf=f0 by rw[HF.out,if_neg dh]);clear HF;go_enter func17,ntmps17;go_wp2_with(go_at_call 43;refine(HA _).mono ?_;rintro e X⟨rfl,hX⟩);go_ret;exact⟨by rw[HE.out];rfl,ax (ai _ _) hX⟩
 subst dh;rw[if_pos J]at HF;have hz:((0:Nat):Int)=0:=J;rw[hz]at HA;clear hz;go_enter func17,ntmps17;go_wp2_with(go_at_call 43;rw[<-hV];clear hV;refine(HA _).mono ?_;rintro e X⟨rfl,hX⟩;have k0:=ao hX x0);go_loopw[4](fun aL w'=>∃i:Nat,i<=n/\aL=I R i/\Hid (Below X.heap.size X w')/\Hid (e_ ((rs.take i).map g_)=0))(fun aL _=>n-(intOf aL).toNat);case atStart=>exact⟨0,by omega,J,aa (Below.refl _ _),aa J⟩
 case round=>
  obtain⟨i,hi,rfl,S,HG⟩:=hrel;have HW:=aa (ax (ax hB hX) S.out);have g0:=ao S.out k0;by_cases am:i<n
  .obtain⟨c,cH,fF⟩:=HL.out i am;obtain⟨b,off,rfl,ds,tD⟩:=G.out (by omega);obtain⟨dj,cc,cZ⟩:=tD.out i c cH;have hR:=cZ.au ds HW.out;clear cZ;obtain⟨m,hm⟩:=af c.bq.length;have D7:m<=9223372036854775807:=by have q:=hR.le;have h2:=hR.cap;unfold maxLen at h2;omega
   have N:e_ ((rs.take (i+1)).map g_)=g_ c:=by rw[fF,mU,yr,if_pos HG.out];exact KE _
   obtain⟨W1,dU,lm,_,gu⟩:=eN wr #[I R c.nr, .slice dj m cc,I R c.dO.aF,I R c.dO.aU] 54;have s0:=gu 0;have s1:=gu 1;have s2:=gu 2;have s3:=gu 3;simp only[cK,cT,List.getElem?_cons_succ]at s0 s1 s2 s3;have fv:=aa (Bi (hR.bq.au lm) m hm);have YS:=aa (show∀j,j<m->∃x,c.bq[j]?=some x/\c.bq.take (j+1)=c.bq.take j++[x]from fun j h=>uD (by omega));have mh:=aa (show g_ c=if c.nr<0\/8<c.nr then 1 else if 4<m then 2 else if e_ (c.bq.map (hK c.nr.toNat))=0 then dl c.dO else e_ (c.bq.map (hK c.nr.toNat))by rw[hm];rfl);have pG:=fun X=>abU c.dO X;obtain⟨p0,p1,p2,p3,_,_,_,_⟩:=hR;rw[<-hm]at p1;have HM:=aa hm;have HQ:=aa N;have qb:b<wr.heap.size:=Nat.lt_of_lt_of_le ds HW.out.size;clear hm N cH fF gu;obtain⟨nr,cs,⟨rk,re⟩⟩:=c;simp only at p0 p1 p2 p3 s0 s1 s2 s3 dU fv YS mh pG HM HQ;unfold fe at pG;simp only at pG;by_cases b0:nr<0\/8<nr
   .have HE:=aa (show(pf:Int)=1 by
     have q:g_ ⟨nr,cs,⟨rk,re⟩⟩=1:=by rw[mh.out,if_pos b0]
     rw[HF.out,Kv (HQ.out.trans q) (by omega)];rfl);clear mh HQ;go_wp2;all_goals first|omega|(go_ret;exact⟨by rw[HE.out];rfl,ax HW.out (ai _ _)⟩)
   rw[if_neg b0]at mh;obtain⟨k,rfl⟩:∃k:Nat,nr=k:=⟨nr.toNat,by omega⟩;have If:k<9:=by omega
   rw[Int.toNat_natCast]at mh;have i1:¬(k:Int)<0:=by omega
   have i2:¬8<(k:Int):=by omega
   clear b0;by_cases h4:4<m
   .have HE:=aa (show(pf:Int)=2 by
     have q:g_ ⟨(k:Int),cs,⟨rk,re⟩⟩=2:=by rw[mh.out,if_pos h4]
     rw[HF.out,Kv (HQ.out.trans q) (by omega)];rfl);clear mh HQ;go_wp2;go_ret;exact⟨by rw[HE.out];rfl,ax HW.out (ai _ _)⟩
   rw[if_neg h4]at mh;go_wp2;rw[<-dU];clear dU p0 p1 p2 p3;go_loopw[6](fun wd w'=>∃j:Nat,j<=m/\wd=I R j/\Hid (Below W1.heap.size W1 w')/\Hid (e_ ((cs.take j).map (hK k))=0))(fun wd _=>m-(intOf wd).toNat);case atStart=>exact⟨0,by omega,J,aa (Below.refl _ _),aa J⟩
   case round=>
    obtain⟨j,hj,rfl,wS,Z7⟩:=hrel;have t0:=ao wS.out s0;have t1:=ao wS.out s1;by_cases O6:j<m
    .obtain⟨x,sV,VJ⟩:=YS.out j O6;obtain⟨b3,apv,rfl,agm,HA3⟩:=fv.out (by omega);have u5:=(HA3.out j x sV).au fun B=>(kL wS.out).1 b3 B agm;have gF:=fun X=>alX k If x u5.ok X;have tf:e_ ((cs.take (j+1)).map (hK k))=hK k x:=by rw[VJ,mU,yr,if_pos Z7.out];exact KE _
     obtain⟨gw,sp⟩:=af (hK k x);rw[<-sp]at gF tf;have W7:=aa tf;obtain⟨G0,g1,g2,g3,g4,oK,oP,kU,n7,_⟩:=u5;clear sp sV VJ tf;obtain⟨a6,op,vv,mm,gl,⟨ip,cV,lo,hh⟩⟩:=x;unfold e9 at gF;simp only at G0 g1 g2 g3 g4 oK oP kU n7 gF;replace t0:=aJ t0;replace t1:=aJ t1;replace G0:=aJ G0;replace g1:=aJ g1;replace g2:=aJ g2;replace g3:=aJ g3;replace g4:=aJ g4;replace oK:=aJ oK;replace oP:=aJ oP;replace kU:=aJ kU;replace n7:=aJ n7;have i3:(0:Int)<=j:=by omega
     have i4:(j:Int)<m:=by omega
     have t1p:=ao wS.out s1;go_wp2;clear t1p;have kk:∀d os,ap ae 44 #[I R k, .agg #[I R a6,I R op,I .u64 vv,I .u64 mm, .string gl,I .u32 ip,I R cV,I R lo,I R hh]] (grow (redrawn wr d) os) fun e bF=>e=aq (I R gw)/\∃p:Regrown,bF=grow (redrawn wr p.d) p.os:=fun d os=>Calls.regrown_of (gF _);clear gF;refine wp_region_quiet_below (by kernel_rfl) (by kernel_rfl) ?_;by_cases Lq:gw=0
     .subst Lq;repeat(go_big_quiet_step(first|(go_at_call 44;exact kk _ _)))
      refine e6 ?_;intro _ bT;obtain⟨⟨dq,bJ⟩,bY⟩:=bT;subst bY;clear kk t0 t1 G0 g1 g2 g3 g4 oK oP kU n7;go_wp2;go_round;case rel=>exact⟨j+1,by omega,by go_num,aa (ax wS.out (cN _ _ _)),W7⟩
      case measure=>simp[intOf];omega
     .have HE:=aa (show pf=gw by
       have q:g_ ⟨(k:Int),cs,⟨rk,re⟩⟩=gw:=by rw[mh.out,amX W7.out Lq,if_neg Lq]
       rw[HF.out,Kv (HQ.out.trans q) Lq]);have pfx:(0:Int)<gw:=by omega
      repeat(go_big_quiet_step(first|(go_at_call 44;exact kk _ _)))
      refine e6 ?_;intro _ bT;obtain⟨⟨dq,bJ⟩,bY⟩:=bT;subst bY;clear kk t0 t1 G0 g1 g2 g3 g4 oK oP kU n7;go_wp2;go_ret;exact⟨by rw[HE.out];rfl,ax HW.out (ax lm (ax wS.out (cN _ _ _)))⟩
    .obtain rfl:j=m:=by omega
     have Sm:=aa (show g_ ⟨(k:Int),cs,⟨rk,re⟩⟩=dl ⟨rk,re⟩by have:=Z7.out;rw[li (by rw[HM.out];exact Nat.le_refl _)]at this;rw[mh.out,this,if_pos J]);obtain⟨MY,YH⟩:=af (dl ⟨rk,re⟩);rw[<-YH]at Sm pG;have t2:=ao wS.out s2;have t3:=ao wS.out s3;clear YH;by_cases Zd:MY=0
     .subst Zd;have oo:=aa (HQ.out.trans Sm.out);have hz:((0:Nat):Int)=0:=J;rw[hz]at pG;clear hz;go_wp2_with(go_at_call 43;refine(pG _).mono ?_;rintro e X2⟨rfl,tH⟩);go_round;case rel=>exact⟨i+1,by omega,by go_num,aa (ax S.out (ax lm (ax wS.out tH))),oo⟩
      case measure=>simp[intOf];omega
     .have HE:=aa (show pf=MY by rw[HF.out,Kv (HQ.out.trans Sm.out) Zd]);have pfa:(0:Int)<MY:=by omega
      go_wp2_with(go_at_call 43;refine(pG _).mono ?_;rintro e X2⟨rfl,tH⟩);go_ret;exact⟨by rw[HE.out];rfl,ax HW.out (ax lm (ax wS.out tH))⟩
  .obtain rfl:i=n:=by omega
   have HE:=aa (show(pf:Int)=0 by have:=HG.out;rw[li (by rw[HN.out];exact Nat.le_refl _)]at this;rw[HF.out,this];rfl);go_wp2;go_ret;exact⟨by rw[HE.out];rfl,HW.out⟩
end Go.Proofs.YtefdakbahplnbaaGreatDoor
