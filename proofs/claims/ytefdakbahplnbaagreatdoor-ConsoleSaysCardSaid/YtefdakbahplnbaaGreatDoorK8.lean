/- policy.Check: actions, conds. -/
import Derived.Test.YtefdakbahplnbaaGreatDoorK7
import Derived.Lib.QuietBelow
open Go.Proofs.Tryz
open Bool renaming eq_iff_iff->fs
open Go renaming Calls->ap,World->ac
open Go.Ending renaming returned->aq
open Go.IntKind renaming i64->R,u64->ah
open Go.Proofs.Tryz renaming prog->ae
open Go.Value renaming bool->aH,int->I,string->ad
open Int renaming natCast_eq_zero->T0
namespace Go.Proofs.YtefdakbahplnbaaGreatDoor
open Go.RowKit
theorem EE{v:Value}{f:Nat}(k:Nat)(hv:v=cj k)(h:f=k):aq v=aq (cj f):=by rw[hv,h]
theorem vm(op:Int)(w:ac):ap ae 131 #[I R op] w fun e w'=>e=aq (I R (fA op:Nat))/\w'=w:=by go_enter func131,ntmps131;go_wp2;all_goals go_ret;refine⟨ia ?_,J⟩;simp_all[fA]
theorem Zm(a:bG)(w:ac):ap ae 55 #[fe a] w fun e w'=>e=aq (cj (dl a))/\Below w.heap.size w w':=by
 obtain⟨k,e⟩:=a;unfold fe;simp only;go_enter func55,ntmps55;go_wp2;all_goals go_ret;refine⟨?_,ai _ _⟩
 all_goals first|(refine EE 0 J ?_;simp_all[dl];done)|(refine EE 1 J ?_;simp_all[dl];done)|(refine EE 3 J ?_;simp_all[dl];done)|(refine EE 0 J ?_;simp[dl, *];omega)|(refine EE 1 J ?_;simp[dl, *];omega)|(refine EE 3 J ?_;simp[dl, *];omega)
set_option maxHeartbeats 4000000 in set_option maxRecDepth 100000 in theorem afo(a6 vi vU vK b lo hi:Int)(g:ByteArray)(w:ac):ap ae 132 #[.agg #[I R a6,I R 7,I ah vi,I ah vU,ad g,I .u32 vK,I R b,I R lo,I R hi]] w fun e w'=>(∃aI,e=aq (aH aI)/\(aI=true↔g.toList≠[]\/¬(vK=0/\b=0/\lo=0/\hi=0)))/\Below w.heap.size w w':=by
 have HK:∀w,ap ae 131 #[I R 7] w fun e w'=>e=aq (I R 1)/\w'=w:=fun w=>by have h:=vm 7 w;rwa[show((fA 7:Nat):Int)=1 by simp[fA]]at h
 go_enter func132,ntmps132;go_wp2_with(go_at_call 131;refine(HK _).mono ?_;rintro e w'⟨rfl,rfl⟩);all_goals go_ret;refine⟨⟨_,J,?_⟩,ai _ _⟩
 all_goals clear HK;first|(simp_all;done)|(simp_all;omega)
set_option maxHeartbeats 4000000 in set_option maxRecDepth 100000 in theorem aec(a6 vi vU vK b lo hi:Int)(g:ByteArray)(w:ac):ap ae 132 #[.agg #[I R a6,I R 8,I ah vi,I ah vU,ad g,I .u32 vK,I R b,I R lo,I R hi]] w fun e w'=>(∃aI,e=aq (aH aI)/\(aI=true↔vU≠0\/vi≠0\/¬(vK=0/\b=0/\lo=0/\hi=0)))/\Below w.heap.size w w':=by
 have HK:∀w,ap ae 131 #[I R 8] w fun e w'=>e=aq (I R 2)/\w'=w:=fun w=>by have h:=vm 8 w;rwa[show((fA 8:Nat):Int)=2 by simp[fA]]at h
 go_enter func132,ntmps132;go_wp2_with(go_at_call 131;refine(HK _).mono ?_;rintro e w'⟨rfl,rfl⟩);all_goals go_ret;refine⟨⟨_,J,?_⟩,ai _ _⟩
 all_goals clear HK;first|(simp_all;done)|(simp_all;omega)
set_option maxHeartbeats 4000000 in set_option maxRecDepth 100000 in theorem afw(a6 vi vU vK b lo hi:Int)(g:ByteArray)(w:ac):ap ae 132 #[.agg #[I R a6,I R 9,I ah vi,I ah vU,ad g,I .u32 vK,I R b,I R lo,I R hi]] w fun e w'=>(∃aI,e=aq (aH aI)/\(aI=true↔vU≠0\/vi≠0\/g.toList≠[]))/\Below w.heap.size w w':=by
 have HK:∀w,ap ae 131 #[I R 9] w fun e w'=>e=aq (I R 3)/\w'=w:=fun w=>by have h:=vm 9 w;rwa[show((fA 9:Nat):Int)=3 by simp[fA]]at h
 go_enter func132,ntmps132;go_wp2_with(go_at_call 131;refine(HK _).mono ?_;rintro e w'⟨rfl,rfl⟩);all_goals go_ret;refine⟨⟨_,J,?_⟩,ai _ _⟩
 all_goals clear HK;first|(simp_all;done)|(simp_all;omega)
set_option maxHeartbeats 4000000 in set_option maxRecDepth 100000 in theorem aoM(a6 op vi vU vK b lo hi:Int)(g:ByteArray)(h7:¬op=7)(h8:¬op=8)(h9:¬op=9)(w:ac):ap ae 132 #[.agg #[I R a6,I R op,I ah vi,I ah vU,ad g,I .u32 vK,I R b,I R lo,I R hi]] w fun e w'=>(∃aI,e=aq (aH aI)/\(aI=true↔vU≠0\/g.toList≠[]\/¬(vK=0/\b=0/\lo=0/\hi=0)))/\Below w.heap.size w w':=by
 have HK:∀w,ap ae 131 #[I R op] w fun e w'=>e=aq (I R 1)/\w'=w:=fun w=>by have h:=vm op w;rwa[show((fA op:Nat):Int)=1 by simp[fA,h8,h9]]at h
 go_enter func132,ntmps132;go_wp2_with(go_at_call 131;refine(HK _).mono ?_;rintro e w'⟨rfl,rfl⟩);all_goals go_ret;refine⟨⟨_,J,?_⟩,ai _ _⟩
 all_goals clear HK;first|(simp_all;done)|(simp_all;omega)
theorem adk(g:ByteArray):g.toList=[]↔g.size=0:=by rw[Lib.toList_data,Lib.size_eq,List.length_eq_zero_iff]
theorem Iu(c:CD)(w:ac):ap ae 132 #[e9 c] w fun e w'=>e=aq (aH (decide (bO c)))/\Below w.heap.size w w':=by
 obtain⟨a6,op,v,m,g,⟨ip,b,lo,hi⟩⟩:=c;have hg:=adk g;by_cases h7:op=7;.subst h7;refine(afo a6 v m ip b lo hi g w).mono ?_;rintro e w'⟨⟨aI,rfl,hz⟩,hb⟩;refine⟨gm ?_,hb⟩;rw[fs,hz,decide_eq_true_iff];simp only[bO,cB,hg,ne_eq,T0];by_cases x1:m=0<;>by_cases x2:v=0<;>by_cases x3:g.size=0<;>by_cases x4:(ip=0/\b=0/\lo=0/\hi=0)<;>simp[*]
 by_cases h8:op=8;.subst h8;refine(aec a6 v m ip b lo hi g w).mono ?_;rintro e w'⟨⟨aI,rfl,hz⟩,hb⟩;refine⟨gm ?_,hb⟩;rw[fs,hz,decide_eq_true_iff];simp only[bO,cB,ne_eq,T0];by_cases x1:m=0<;>by_cases x2:v=0<;>by_cases x4:(ip=0/\b=0/\lo=0/\hi=0)<;>simp[*]
 by_cases h9:op=9;.subst h9;refine(afw a6 v m ip b lo hi g w).mono ?_;rintro e w'⟨⟨aI,rfl,hz⟩,hb⟩;refine⟨gm ?_,hb⟩;rw[fs,hz,decide_eq_true_iff];simp only[bO,cB,hg,ne_eq,T0];by_cases x1:m=0<;>by_cases x2:v=0<;>by_cases x3:g.size=0<;>by_cases x4:(ip=0/\b=0/\lo=0/\hi=0)<;>simp[*]
 .refine(aoM a6 op v m ip b lo hi g h7 h8 h9 w).mono ?_;rintro e w'⟨⟨aI,rfl,hz⟩,hb⟩;refine⟨gm ?_,hb⟩;rw[fs,hz,decide_eq_true_iff];simp only[bO,cB,hg,ne_eq,T0];by_cases x1:m=0<;>by_cases x2:v=0<;>by_cases x3:g.size=0<;>by_cases x4:(ip=0/\b=0/\lo=0/\hi=0)<;>simp[*]
end Go.Proofs.YtefdakbahplnbaaGreatDoor
