/- The composite literals of a part, as the table of types gives them. -/
import Derived.Test.YtefdakbahplnbaaGreatDoorK1
open Go.Proofs.Tryz
namespace Go.Proofs.YtefdakbahplnbaaGreatDoor.Gl
open Go.RowKit
theorem De{P:Program}{a_:Array Oper}{rest:List Oper}{o:Oper}{a:Act}{w:World}{aE:Exit->Act->World->Prop}(hg:o.guard=none)(t:TypeId)(i:Nat)(x:Operand)(ho:o.op= .build t #[(i,x)])(v:Value)(hx:a.eval x=v)(cells:Array Value)(M:P.built t [(i,v)]=some cells)(h:wpList P a_ aE rest (a.put o.dst (.agg cells)) w):wpList P a_ aE (o::rest) a w:=wpList_buildTo hg t #[(i,x)] ho _ J cells (by simpa[hx]using M) h
theorem abG{P:Program}{a_:Array Oper}{rest:List Oper}{o:Oper}{a:Act}{w:World}{aE:Exit->Act->World->Prop}(hg:o.guard=none)(t:TypeId)(i j:Nat)(x al:Operand)(ho:o.op= .build t #[(i,x),(j,al)])(v ay:Value)(hx:a.eval x=v)(hy:a.eval al=ay)(cells:Array Value)(M:P.built t [(i,v),(j,ay)]=some cells)(h:wpList P a_ aE rest (a.put o.dst (.agg cells)) w):wpList P a_ aE (o::rest) a w:=wpList_buildTo hg t #[(i,x),(j,al)] ho _ J cells (by simpa[hx,hy]using M) h
theorem IQ(f:Nat->Bool):Tryz.prog.built 298 [(0, .agg (LA 256 f))]=some (LA 257 (PF f false)):=by rw[pV,pV];kernel_rfl
theorem Zo(f:Nat->Bool)(m:Bool):Tryz.prog.built 298 [(0, .agg (LA 256 f)),(1, .bool m)]=some (LA 257 (PF f m)):=by rw[pV,pV];kernel_rfl
end Go.Proofs.YtefdakbahplnbaaGreatDoor.Gl
