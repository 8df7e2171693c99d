import Derived.Test.YtekegfbjbainhaaGreatKLog5
set_option maxRecDepth 100000
set_option maxHeartbeats 4000000
set_option linter.unusedVariables false
set_option linter.unusedSimpArgs false
namespace Go.Proofs.YtekegfbjbainhaaGreat
open Go.RowKit
attribute [local go_sem↓] Go.wp_at_zero Go.wp_at_succ
theorem CK(C D a b:Nat)(A:List UInt8)(E:Option Addr)(F:Nat)(c:World)(G:A.length=8)(J:C<=9223372036854775807)(q:a<c.heap.size)(o:c.rangeAt a b (A.map fj)):
  CP 136 #[.int .i64 D,.int .i64 D,.pointer (some ⟨a,b,none⟩),.slice E C F] c fun H I=>H=.returned (.tuple #[dV A,dV A,.bool ((C:Int)==0)])/\Below c.heap.size c I:=by
 obtain⟨s,t,u,v,w,x,y,z,rfl⟩:=uj A G;have K:(C:Int)<=9223372036854775807:=by omega
 have r:Below c.heap.size c ((c.alloc (.cells zO 36)).alloc (.cells zO 36)):=tO.alloc (by simp) _;have T:((c.alloc (.cells zO 36)).alloc (.cells zO 36)).cell? ⟨a,b,none⟩=some (.int .u8 s.toNat):=by rw[r.cell (p:=⟨a,b,none⟩) q];exact o 0 _ rfl
 have L:∀e f g h i l m n:Value,((c.alloc (.cells #[e,f,g,h,i,l,m,n] 36)).alloc (.cells zO 36)).cell? ⟨a,b,none⟩=some (.int .u8 s.toNat):=fun e f g h i l m n=>by rw[Below.cell (B:=c.heap.size) (tO.alloc (by simp) _) (p:=⟨a,b,none⟩) q];exact o 0 _ rfl
 have U:((c.alloc (.cells zO 36)).alloc (.cells zO 36)).cell? ⟨a,b+1,none⟩=some (.int .u8 t.toNat):=by rw[r.cell (p:=⟨a,b+1,none⟩) q];exact o 1 _ rfl
 have M:∀e f g h i l m n:Value,((c.alloc (.cells #[e,f,g,h,i,l,m,n] 36)).alloc (.cells zO 36)).cell? ⟨a,b+1,none⟩=some (.int .u8 t.toNat):=fun e f g h i l m n=>by rw[Below.cell (B:=c.heap.size) (tO.alloc (by simp) _) (p:=⟨a,b+1,none⟩) q];exact o 1 _ rfl
 have V:((c.alloc (.cells zO 36)).alloc (.cells zO 36)).cell? ⟨a,b+2,none⟩=some (.int .u8 u.toNat):=by rw[r.cell (p:=⟨a,b+2,none⟩) q];exact o 2 _ rfl
 have N:∀e f g h i l m n:Value,((c.alloc (.cells #[e,f,g,h,i,l,m,n] 36)).alloc (.cells zO 36)).cell? ⟨a,b+2,none⟩=some (.int .u8 u.toNat):=fun e f g h i l m n=>by rw[Below.cell (B:=c.heap.size) (tO.alloc (by simp) _) (p:=⟨a,b+2,none⟩) q];exact o 2 _ rfl
 have W:((c.alloc (.cells zO 36)).alloc (.cells zO 36)).cell? ⟨a,b+3,none⟩=some (.int .u8 v.toNat):=by rw[r.cell (p:=⟨a,b+3,none⟩) q];exact o 3 _ rfl
 have O:∀e f g h i l m n:Value,((c.alloc (.cells #[e,f,g,h,i,l,m,n] 36)).alloc (.cells zO 36)).cell? ⟨a,b+3,none⟩=some (.int .u8 v.toNat):=fun e f g h i l m n=>by rw[Below.cell (B:=c.heap.size) (tO.alloc (by simp) _) (p:=⟨a,b+3,none⟩) q];exact o 3 _ rfl
 have X:((c.alloc (.cells zO 36)).alloc (.cells zO 36)).cell? ⟨a,b+4,none⟩=some (.int .u8 w.toNat):=by rw[r.cell (p:=⟨a,b+4,none⟩) q];exact o 4 _ rfl
 have P:∀e f g h i l m n:Value,((c.alloc (.cells #[e,f,g,h,i,l,m,n] 36)).alloc (.cells zO 36)).cell? ⟨a,b+4,none⟩=some (.int .u8 w.toNat):=fun e f g h i l m n=>by rw[Below.cell (B:=c.heap.size) (tO.alloc (by simp) _) (p:=⟨a,b+4,none⟩) q];exact o 4 _ rfl
 have Y:((c.alloc (.cells zO 36)).alloc (.cells zO 36)).cell? ⟨a,b+5,none⟩=some (.int .u8 x.toNat):=by rw[r.cell (p:=⟨a,b+5,none⟩) q];exact o 5 _ rfl
 have Q:∀e f g h i l m n:Value,((c.alloc (.cells #[e,f,g,h,i,l,m,n] 36)).alloc (.cells zO 36)).cell? ⟨a,b+5,none⟩=some (.int .u8 x.toNat):=fun e f g h i l m n=>by rw[Below.cell (B:=c.heap.size) (tO.alloc (by simp) _) (p:=⟨a,b+5,none⟩) q];exact o 5 _ rfl
 have Z:((c.alloc (.cells zO 36)).alloc (.cells zO 36)).cell? ⟨a,b+6,none⟩=some (.int .u8 y.toNat):=by rw[r.cell (p:=⟨a,b+6,none⟩) q];exact o 6 _ rfl
 have R:∀e f g h i l m n:Value,((c.alloc (.cells #[e,f,g,h,i,l,m,n] 36)).alloc (.cells zO 36)).cell? ⟨a,b+6,none⟩=some (.int .u8 y.toNat):=fun e f g h i l m n=>by rw[Below.cell (B:=c.heap.size) (tO.alloc (by simp) _) (p:=⟨a,b+6,none⟩) q];exact o 6 _ rfl
 have a0:((c.alloc (.cells zO 36)).alloc (.cells zO 36)).cell? ⟨a,b+7,none⟩=some (.int .u8 z.toNat):=by rw[r.cell (p:=⟨a,b+7,none⟩) q];exact o 7 _ rfl
 have S:∀e f g h i l m n:Value,((c.alloc (.cells #[e,f,g,h,i,l,m,n] 36)).alloc (.cells zO 36)).cell? ⟨a,b+7,none⟩=some (.int .u8 z.toNat):=fun e f g h i l m n=>by rw[Below.cell (B:=c.heap.size) (tO.alloc (by simp) _) (p:=⟨a,b+7,none⟩) q];exact o 7 _ rfl
 clear o;unfold dV fj;simp only[ZM,dN];go_enter Tryz.func136,Tryz.ntmps136;go_wp2
 go_region
 all_goals
  go_wp2;refine Rv (k:=8) (k':=9) (j:=10) (d:=[s,t,u,v,w,x,y,z]) (d':=[s,t,u,v,w,x,y,z]) rfl rfl rfl ?_ rfl ?_ rfl rfl rfl ⟨rfl,?_⟩
  .exact((aj.new_at _ 36 c.heap.size ([s,t,u,v,w,x,y,z].map fj) rfl).alloc _).of_block rfl
  .exact(aj.new_at _ 36 (c.heap.size+1) ([s,t,u,v,w,x,y,z].map fj) (by simp)).of_block rfl
  .exact(tO.alloc (by simp) _).drew
theorem sL(c b:Nat)(e:Option Addr)(g:Option Addr)(h:Nat)(a:World)(f:¬(b=c/\e≠none)):
  CP 136 #[.int .i64 b,.int .i64 c,.pointer e,.slice g 0 h] a fun l m=>l=.returned (.tuple #[dV gw,dV gw,.bool false])/\Below a.heap.size a m:=by
 by_cases i:b=c
 .subst i;obtain rfl:e=none:=by cases e;rfl;exact absurd ⟨rfl,by simp⟩ f
  clear f;go_enter Tryz.func136,Tryz.ntmps136;go_wp2
  go_region
  all_goals
   go_wp2;refine Rv (k:=8) (k':=9) (j:=10) (d:=gw) (d':=gw) rfl rfl rfl ?_ rfl ?_ rfl rfl rfl ⟨rfl,?_⟩
   .exact((aj.new_at _ 36 a.heap.size z8 rfl).alloc _).of_block rfl
   .exact(aj.new_at _ 36 (a.heap.size+1) z8 (by simp)).of_block rfl
   .exact(tO.alloc (by simp) _).drew
 .have n:((b:Int)==(c:Int))=false:=by rw[tN];simp only[ne_eq,beq_iff_eq];omega
  clear f;go_enter Tryz.func136,Tryz.ntmps136;go_wp2
  go_region
  all_goals
   go_wp2;refine Rv (k:=8) (k':=9) (j:=10) (d:=gw) (d':=gw) rfl rfl rfl ?_ rfl ?_ rfl rfl rfl ⟨rfl,?_⟩
   .exact((aj.new_at _ 36 a.heap.size z8 rfl).alloc _).of_block rfl
   .exact(aj.new_at _ 36 (a.heap.size+1) z8 (by simp)).of_block rfl
   .exact(tO.alloc (by simp) _).drew
theorem oM(a w b c:Nat)(v:List UInt8)(l:Nat)(e:World)(x:v.length=8)(g:b<e.heap.size)(D:a+1<=l)(A:l<=9223372036854775807)(f:e.rangeAt b (c+a*8) (v.map fj)):
  CP 136 #[.int .i64 w,.int .i64 w,.pointer none,.slice (some ⟨b,c,none⟩) (a+1) l] e fun y z=>y=.returned (.tuple #[dV v,dV v,.bool ((a:Int)==0)])/\Below e.heap.size e z:=by
 obtain⟨m,n,o,q,r,s,t,u,rfl⟩:=uj v x;have h:Below e.heap.size e ((e.alloc (.cells zO 36)).alloc (.cells zO 36)):=tO.alloc (by simp) _;have i:Below e.heap.size e (((e.alloc (.cells zO 36)).alloc (.cells zO 36)).alloc (.cells zO 36)):=h.alloc h.size _;have S:((e.alloc (.cells zO 36)).alloc (.cells zO 36)).cell? ⟨b,c+a*8,none⟩=some (.int .u8 m.toNat):=by rw[h.cell (p:=⟨b,c+a*8,none⟩) g];exact f 0 _ rfl
 have K:(((e.alloc (.cells zO 36)).alloc (.cells zO 36)).alloc (.cells zO 36)).cell? ⟨b,c+a*8,none⟩=some (.int .u8 m.toNat):=by rw[i.cell (p:=⟨b,c+a*8,none⟩) g];exact f 0 _ rfl
 have T:((e.alloc (.cells zO 36)).alloc (.cells zO 36)).cell? ⟨b,c+a*8+1,none⟩=some (.int .u8 n.toNat):=by rw[h.cell (p:=⟨b,c+a*8+1,none⟩) g];exact f 1 _ rfl
 have L:(((e.alloc (.cells zO 36)).alloc (.cells zO 36)).alloc (.cells zO 36)).cell? ⟨b,c+a*8+1,none⟩=some (.int .u8 n.toNat):=by rw[i.cell (p:=⟨b,c+a*8+1,none⟩) g];exact f 1 _ rfl
 have U:((e.alloc (.cells zO 36)).alloc (.cells zO 36)).cell? ⟨b,c+a*8+2,none⟩=some (.int .u8 o.toNat):=by rw[h.cell (p:=⟨b,c+a*8+2,none⟩) g];exact f 2 _ rfl
 have M:(((e.alloc (.cells zO 36)).alloc (.cells zO 36)).alloc (.cells zO 36)).cell? ⟨b,c+a*8+2,none⟩=some (.int .u8 o.toNat):=by rw[i.cell (p:=⟨b,c+a*8+2,none⟩) g];exact f 2 _ rfl
 have V:((e.alloc (.cells zO 36)).alloc (.cells zO 36)).cell? ⟨b,c+a*8+3,none⟩=some (.int .u8 q.toNat):=by rw[h.cell (p:=⟨b,c+a*8+3,none⟩) g];exact f 3 _ rfl
 have N:(((e.alloc (.cells zO 36)).alloc (.cells zO 36)).alloc (.cells zO 36)).cell? ⟨b,c+a*8+3,none⟩=some (.int .u8 q.toNat):=by rw[i.cell (p:=⟨b,c+a*8+3,none⟩) g];exact f 3 _ rfl
 have W:((e.alloc (.cells zO 36)).alloc (.cells zO 36)).cell? ⟨b,c+a*8+4,none⟩=some (.int .u8 r.toNat):=by rw[h.cell (p:=⟨b,c+a*8+4,none⟩) g];exact f 4 _ rfl
 have O:(((e.alloc (.cells zO 36)).alloc (.cells zO 36)).alloc (.cells zO 36)).cell? ⟨b,c+a*8+4,none⟩=some (.int .u8 r.toNat):=by rw[i.cell (p:=⟨b,c+a*8+4,none⟩) g];exact f 4 _ rfl
 have X:((e.alloc (.cells zO 36)).alloc (.cells zO 36)).cell? ⟨b,c+a*8+5,none⟩=some (.int .u8 s.toNat):=by rw[h.cell (p:=⟨b,c+a*8+5,none⟩) g];exact f 5 _ rfl
 have P:(((e.alloc (.cells zO 36)).alloc (.cells zO 36)).alloc (.cells zO 36)).cell? ⟨b,c+a*8+5,none⟩=some (.int .u8 s.toNat):=by rw[i.cell (p:=⟨b,c+a*8+5,none⟩) g];exact f 5 _ rfl
 have Y:((e.alloc (.cells zO 36)).alloc (.cells zO 36)).cell? ⟨b,c+a*8+6,none⟩=some (.int .u8 t.toNat):=by rw[h.cell (p:=⟨b,c+a*8+6,none⟩) g];exact f 6 _ rfl
 have Q:(((e.alloc (.cells zO 36)).alloc (.cells zO 36)).alloc (.cells zO 36)).cell? ⟨b,c+a*8+6,none⟩=some (.int .u8 t.toNat):=by rw[i.cell (p:=⟨b,c+a*8+6,none⟩) g];exact f 6 _ rfl
 have Z:((e.alloc (.cells zO 36)).alloc (.cells zO 36)).cell? ⟨b,c+a*8+7,none⟩=some (.int .u8 u.toNat):=by rw[h.cell (p:=⟨b,c+a*8+7,none⟩) g];exact f 7 _ rfl
 have R:(((e.alloc (.cells zO 36)).alloc (.cells zO 36)).alloc (.cells zO 36)).cell? ⟨b,c+a*8+7,none⟩=some (.int .u8 u.toNat):=by rw[i.cell (p:=⟨b,c+a*8+7,none⟩) g];exact f 7 _ rfl
 have H:((a+1:Nat):Int) - 1=(a:Int):=by omega
 have G:(((a+1:Nat):Int)==0)=false:=by rw[tN];simp only[ne_eq,beq_iff_eq];omega
 have I:((a+1:Nat):Int)=(a:Int)+1:=by omega
 have B:(l:Int)<=9223372036854775807:=by omega
 have F:(a:Int)<l:=by omega
 have E:(a:Int)<=9223372036854775807:=by omega
 have C:¬l=a:=by omega
 have J:IntKind.i64.wrap (a:Int)=(a:Int):=Go.IntWalk.i64_in _ ⟨by omega,by omega⟩;clear f;unfold dV fj;simp only[ZM,dN];go_enter Tryz.func136,Tryz.ntmps136;go_wp2
 go_region
 all_goals
  go_wp2
  go_region
  all_goals
   go_wp2;refine Rv (k:=8) (k':=9) (j:=10) (d:=[m,n,o,q,r,s,t,u]) (d':=[m,n,o,q,r,s,t,u]) rfl rfl rfl ?_ rfl ?_ rfl rfl rfl ⟨rfl,?_⟩
   .exact(((aj.new_at _ 36 e.heap.size ([m,n,o,q,r,s,t,u].map fj) rfl).alloc _).alloc _).of_block rfl
   .exact((aj.new_at _ 36 (e.heap.size+1) ([m,n,o,q,r,s,t,u].map fj) (by simp)).alloc _).of_block rfl
   .exact((tO.alloc (by simp) _).alloc (by simp;omega) _).drew.drew
theorem pM(b D x c f:Nat)(b1:Option Addr)(ag:List UInt8)(a9:Option (List UInt8×List UInt8))(N:Nat)(a:World)(b9:ag.length=8)(m:c<a.heap.size)(cj:b+1<=N)(cd:N<=9223372036854775807)(l:a.rangeAt c (f+b*8) (ag.map fj))(cn:1<=D)(cr:D<x)(b8:x<=9223372036854775807)(b0:D<=gj x)
  (aD:∀E,BB a E->CP 136 #[.int .i64 D,.int .i64 (gj x:Int),.pointer b1,.slice (some ⟨c,f,none⟩) b N] E fun a7 a8=>Gw a9 a7/\Below E.heap.size E a8):
  CP 136 #[.int .i64 D,.int .i64 x,.pointer b1,.slice (some ⟨c,f,none⟩) (b+1) N] a fun a7 a8=>Gw (a9.map (fun X=>(X.1,Aj (1::(X.2++ag))))) a7/\Below a.heap.size a a8:=by
 obtain⟨n,o,q,r,s,t,u,v,rfl⟩:=uj ag b9;have w:Below a.heap.size a ((a.alloc (.cells zO 36)).alloc (.cells zO 36)):=tO.alloc (by simp) _;have C:Below a.heap.size a (((a.alloc (.cells zO 36)).alloc (.cells zO 36)).alloc (.cells zO 36)):=w.alloc w.size _;have bm:((a.alloc (.cells zO 36)).alloc (.cells zO 36)).cell? ⟨c,f+b*8,none⟩=some (.int .u8 n.toNat):=by rw[w.cell (p:=⟨c,f+b*8,none⟩) m];exact l 0 _ rfl
 have bc:(((a.alloc (.cells zO 36)).alloc (.cells zO 36)).alloc (.cells zO 36)).cell? ⟨c,f+b*8,none⟩=some (.int .u8 n.toNat):=by rw[C.cell (p:=⟨c,f+b*8,none⟩) m];exact l 0 _ rfl
 have bn:((a.alloc (.cells zO 36)).alloc (.cells zO 36)).cell? ⟨c,f+b*8+1,none⟩=some (.int .u8 o.toNat):=by rw[w.cell (p:=⟨c,f+b*8+1,none⟩) m];exact l 1 _ rfl
 have bd:(((a.alloc (.cells zO 36)).alloc (.cells zO 36)).alloc (.cells zO 36)).cell? ⟨c,f+b*8+1,none⟩=some (.int .u8 o.toNat):=by rw[C.cell (p:=⟨c,f+b*8+1,none⟩) m];exact l 1 _ rfl
 have bo:((a.alloc (.cells zO 36)).alloc (.cells zO 36)).cell? ⟨c,f+b*8+2,none⟩=some (.int .u8 q.toNat):=by rw[w.cell (p:=⟨c,f+b*8+2,none⟩) m];exact l 2 _ rfl
 have be:(((a.alloc (.cells zO 36)).alloc (.cells zO 36)).alloc (.cells zO 36)).cell? ⟨c,f+b*8+2,none⟩=some (.int .u8 q.toNat):=by rw[C.cell (p:=⟨c,f+b*8+2,none⟩) m];exact l 2 _ rfl
 have bp:((a.alloc (.cells zO 36)).alloc (.cells zO 36)).cell? ⟨c,f+b*8+3,none⟩=some (.int .u8 r.toNat):=by rw[w.cell (p:=⟨c,f+b*8+3,none⟩) m];exact l 3 _ rfl
 have bf:(((a.alloc (.cells zO 36)).alloc (.cells zO 36)).alloc (.cells zO 36)).cell? ⟨c,f+b*8+3,none⟩=some (.int .u8 r.toNat):=by rw[C.cell (p:=⟨c,f+b*8+3,none⟩) m];exact l 3 _ rfl
 have br:((a.alloc (.cells zO 36)).alloc (.cells zO 36)).cell? ⟨c,f+b*8+4,none⟩=some (.int .u8 s.toNat):=by rw[w.cell (p:=⟨c,f+b*8+4,none⟩) m];exact l 4 _ rfl
 have bg:(((a.alloc (.cells zO 36)).alloc (.cells zO 36)).alloc (.cells zO 36)).cell? ⟨c,f+b*8+4,none⟩=some (.int .u8 s.toNat):=by rw[C.cell (p:=⟨c,f+b*8+4,none⟩) m];exact l 4 _ rfl
 have bs:((a.alloc (.cells zO 36)).alloc (.cells zO 36)).cell? ⟨c,f+b*8+5,none⟩=some (.int .u8 t.toNat):=by rw[w.cell (p:=⟨c,f+b*8+5,none⟩) m];exact l 5 _ rfl
 have bh:(((a.alloc (.cells zO 36)).alloc (.cells zO 36)).alloc (.cells zO 36)).cell? ⟨c,f+b*8+5,none⟩=some (.int .u8 t.toNat):=by rw[C.cell (p:=⟨c,f+b*8+5,none⟩) m];exact l 5 _ rfl
 have bu:((a.alloc (.cells zO 36)).alloc (.cells zO 36)).cell? ⟨c,f+b*8+6,none⟩=some (.int .u8 u.toNat):=by rw[w.cell (p:=⟨c,f+b*8+6,none⟩) m];exact l 6 _ rfl
 have bi:(((a.alloc (.cells zO 36)).alloc (.cells zO 36)).alloc (.cells zO 36)).cell? ⟨c,f+b*8+6,none⟩=some (.int .u8 u.toNat):=by rw[C.cell (p:=⟨c,f+b*8+6,none⟩) m];exact l 6 _ rfl
 have bv:((a.alloc (.cells zO 36)).alloc (.cells zO 36)).cell? ⟨c,f+b*8+7,none⟩=some (.int .u8 v.toNat):=by rw[w.cell (p:=⟨c,f+b*8+7,none⟩) m];exact l 7 _ rfl
 have bk:(((a.alloc (.cells zO 36)).alloc (.cells zO 36)).alloc (.cells zO 36)).cell? ⟨c,f+b*8+7,none⟩=some (.int .u8 v.toNat):=by rw[C.cell (p:=⟨c,f+b*8+7,none⟩) m];exact l 7 _ rfl
 have co:((b+1:Nat):Int) - 1=(b:Int):=by omega
 have cm:(((b+1:Nat):Int)==0)=false:=by rw[tN];simp only[ne_eq,beq_iff_eq];omega
 have ct:((b+1:Nat):Int)=(b:Int)+1:=by omega
 have ce:(N:Int)<=9223372036854775807:=by omega
 have cl:(b:Int)<N:=by omega
 have ck:(b:Int)<=9223372036854775807:=by omega
 have ci:¬N=b:=by omega
 have cv:IntKind.i64.wrap (b:Int)=(b:Int):=Go.IntWalk.i64_in _ ⟨by omega,by omega⟩;clear l;have ak:Hd (BB a (((a.alloc (.cells zO 36)).alloc (.cells zO 36)).alloc (.cells (cO n o q r s t u v) 36)).drew):=(w.alloc w.size _).drew;have aO:aj (((a.alloc (.cells zO 36)).alloc (.cells zO 36)).alloc (.cells (cO n o q r s t u v) 36)) a.heap.size 36 z8:=((aj.new_at _ 36 a.heap.size z8 rfl).alloc _).alloc _;have aP:aj (((a.alloc (.cells zO 36)).alloc (.cells zO 36)).alloc (.cells (cO n o q r s t u v) 36)) (a.heap.size+1) 36 z8:=(aj.new_at _ 36 (a.heap.size+1) z8 (by simp)).alloc _;have aI:aj (((a.alloc (.cells zO 36)).alloc (.cells zO 36)).alloc (.cells (cO n o q r s t u v) 36)) (a.heap.size+1+1) 36 ([n,o,q,r,s,t,u,v].map fj):=aj.new_at _ 36 (a.heap.size+1+1) ([n,o,q,r,s,t,u,v].map fj) (by simp);have b3:Hd (∀a:World,CP 128 #[.int .i64 x] a fun W a8=>W=.returned (.int .i64 (gj x:Int))/\a8=a):=fun a=>Py x a (by omega) b8;have cf:=Rq x (by omega);have b4:Hd (∀E,BB a E->Calls _ _ _ E _):=aD;clear aD;generalize gj x=ae at*;have cp:((D:Int)==(x:Int))=false:=by rw[tN];simp only[ne_eq,beq_iff_eq];omega
 have cu:(x:Int)<=9223372036854775807:=by omega
 have cs:(D:Int)<x:=by omega
 have cg:(1:Int)<=ae:=by omega
 have ch:(D:Int)<=ae:=by omega
 go_enter Tryz.func136,Tryz.ntmps136;go_wp2
 go_region
 go_wp2_with fail;refine(b3.o _).mono ?_;rintro a7 cA ⟨rfl,rfl⟩;go_wp2_with fail;refine(b4.o _ (by exact ak.o)).mono ?_;rintro a7 af ⟨⟨am,aC,aR,aS,rfl,aE⟩,a6⟩;have ar:Hd (BB a af):=ak.o.trans (a6.mono ak.o.size);have aB:aj af a.heap.size 36 z8:=aj.past a6 (by exact aO);have al:aj af (a.heap.size+1) 36 z8:=aj.past a6 (by exact aP);have aa:aj af (a.heap.size+1+1) 36 ([n,o,q,r,s,t,u,v].map fj):=aj.past a6 (by exact aI);have b7:=aa.lt;clear a6 aO aP aI w C bm bc bn bd bo be bp bf br bg bs bh bu bi bv bk;go_wp2_with (first
  |(refine iq (by rfl) (.tmp 8) (.tmp 65) (by rfl) a.heap.size (by rfl) am aR (by rfl) aB (by rfl) ?_;intro ao ai ac ba;have ap:aj ao (a.heap.size+1) 36 z8:=al.of_block (ac.block _ al.lt (fun W=>by omega));have ah:aj ao (a.heap.size+1+1) 36 ([n,o,q,r,s,t,u,v].map fj):=aa.of_block (ac.block _ aa.lt (fun W=>by omega));have au:Hd (BB a ao):=ar.o.trans (ac.below ar.o.size (fun ae b0=>by omega)))
  |(refine iq (by rfl) (.tmp 9) (.tmp 66) (by rfl) (a.heap.size+1) (by rfl) aC aS (by rfl) ap (by rfl) ?_;intro g B ad bb;have A:aj g a.heap.size 36 (am.map fj):=ai.of_block (ad.block _ ai.lt (fun W=>by omega));have z:aj g (a.heap.size+1+1) 36 ([n,o,q,r,s,t,u,v].map fj):=ah.of_block (ad.block _ ah.lt (fun W=>by omega));have av:Hd (BB a g):=au.o.trans (ad.below au.o.size (fun ae b0=>by omega))))
 clear aB al aa ai ap ah ac ad ba bb b7;obtain⟨O,P,Q,R,S,T,U,V,rfl⟩:=uj am aR;obtain⟨F,G,H,I,J,K,L,M,rfl⟩:=uj aC aS;have b5:Hd (∀X,a9=some X->X=([O,P,Q,R,S,T,U,V],[F,G,H,I,J,K,L,M])):=aE;have aA:Hd (a.heap.size≠(a.heap.size+1)):=by unfold Hd;omega
 have bw:g.cell? ⟨a.heap.size,0,none⟩=some (.int .u8 O.toNat):=aj.cell? A 0;have bP:g.cell? ⟨a.heap.size+1,0,none⟩=some (.int .u8 F.toNat):=aj.cell? B 0;have c4:g.cell? ⟨a.heap.size+1+1,0,none⟩=some (.int .u8 n.toNat):=aj.cell? z 0;have bA:g.cell? ⟨a.heap.size,1,none⟩=some (.int .u8 P.toNat):=aj.cell? A 1;have bR:g.cell? ⟨a.heap.size+1,1,none⟩=some (.int .u8 G.toNat):=aj.cell? B 1;have c5:g.cell? ⟨a.heap.size+1+1,1,none⟩=some (.int .u8 o.toNat):=aj.cell? z 1;have bB:g.cell? ⟨a.heap.size,2,none⟩=some (.int .u8 Q.toNat):=aj.cell? A 2;have bS:g.cell? ⟨a.heap.size+1,2,none⟩=some (.int .u8 H.toNat):=aj.cell? B 2;have c6:g.cell? ⟨a.heap.size+1+1,2,none⟩=some (.int .u8 q.toNat):=aj.cell? z 2;have bC:g.cell? ⟨a.heap.size,3,none⟩=some (.int .u8 R.toNat):=aj.cell? A 3;have bT:g.cell? ⟨a.heap.size+1,3,none⟩=some (.int .u8 I.toNat):=aj.cell? B 3;have c7:g.cell? ⟨a.heap.size+1+1,3,none⟩=some (.int .u8 r.toNat):=aj.cell? z 3;have bD:g.cell? ⟨a.heap.size,4,none⟩=some (.int .u8 S.toNat):=aj.cell? A 4;have c0:g.cell? ⟨a.heap.size+1,4,none⟩=some (.int .u8 J.toNat):=aj.cell? B 4;have c8:g.cell? ⟨a.heap.size+1+1,4,none⟩=some (.int .u8 s.toNat):=aj.cell? z 4;have bE:g.cell? ⟨a.heap.size,5,none⟩=some (.int .u8 T.toNat):=aj.cell? A 5;have c1:g.cell? ⟨a.heap.size+1,5,none⟩=some (.int .u8 K.toNat):=aj.cell? B 5;have c9:g.cell? ⟨a.heap.size+1+1,5,none⟩=some (.int .u8 t.toNat):=aj.cell? z 5;have bI:g.cell? ⟨a.heap.size,6,none⟩=some (.int .u8 U.toNat):=aj.cell? A 6;have c2:g.cell? ⟨a.heap.size+1,6,none⟩=some (.int .u8 L.toNat):=aj.cell? B 6;have ca:g.cell? ⟨a.heap.size+1+1,6,none⟩=some (.int .u8 u.toNat):=aj.cell? z 6;have bO:g.cell? ⟨a.heap.size,7,none⟩=some (.int .u8 V.toNat):=aj.cell? A 7;have c3:g.cell? ⟨a.heap.size+1,7,none⟩=some (.int .u8 M.toNat):=aj.cell? B 7;have cb:g.cell? ⟨a.heap.size+1+1,7,none⟩=some (.int .u8 v.toNat):=aj.cell? z 7;obtain⟨Y,Z,a0,a1,a2,a3,a4,a5,aT⟩:=uj (Aj (1::([F,G,H,I,J,K,L,M]++[n,o,q,r,s,t,u,v]))) (Lj _);have ax:Hd (Aj (1::([F,G,H,I,J,K,L,M]++[n,o,q,r,s,t,u,v]))=[Y,Z,a0,a1,a2,a3,a4,a5]):=aT
 have b6:Hd (dV [Y,Z,a0,a1,a2,a3,a4,a5]=.agg (cO Y Z a0 a1 a2 a3 a4 a5)):=rfl;clear aT aE
 go_region_with (go_at_call 143;refine(Uy [F,G,H,I,J,K,L,M] [n,o,q,r,s,t,u,v] _ rfl rfl).mono ?_;rintro W e ⟨rfl,ab⟩;rw[ax.o,b6.o];have h:aj e a.heap.size 36 ([O,P,Q,R,S,T,U,V].map fj):=aj.past ab (by exact A);have i:aj e (a.heap.size+1) 36 ([F,G,H,I,J,K,L,M].map fj):=aj.past ab (by exact B);have cc:aj e (a.heap.size+1+1) 36 ([n,o,q,r,s,t,u,v].map fj):=aj.past ab (by exact z);have b2:Hd (BB a e):=av.o.trans (by have y:=ab.mono av.o.size;exact⟨y.os,y.tape,y.output,y.size,y.block⟩);clear bw bP c4 bA bR c5 bB bS c6 bC bT c7 bD c0 c8 bE c1 c9 bI c2 ca bO c3 cb A B z;have cB:e.cell? ⟨a.heap.size,0,none⟩=some (.int .u8 O.toNat):=aj.cell? h 0;have cT:e.cell? ⟨a.heap.size+1,0,none⟩=some (.int .u8 F.toNat):=aj.cell? i 0;have d7:e.frozen? ⟨a.heap.size,0,none⟩=false:=aj.frozen h 0;have df:e.frozen? ⟨a.heap.size+1,0,none⟩=false:=aj.frozen i 0;have cC:e.cell? ⟨a.heap.size,1,none⟩=some (.int .u8 P.toNat):=aj.cell? h 1;have d0:e.cell? ⟨a.heap.size+1,1,none⟩=some (.int .u8 G.toNat):=aj.cell? i 1;have d8:e.frozen? ⟨a.heap.size,1,none⟩=false:=aj.frozen h 1;have dg:e.frozen? ⟨a.heap.size+1,1,none⟩=false:=aj.frozen i 1;have cD:e.cell? ⟨a.heap.size,2,none⟩=some (.int .u8 Q.toNat):=aj.cell? h 2;have d1:e.cell? ⟨a.heap.size+1,2,none⟩=some (.int .u8 H.toNat):=aj.cell? i 2;have d9:e.frozen? ⟨a.heap.size,2,none⟩=false:=aj.frozen h 2;have dh:e.frozen? ⟨a.heap.size+1,2,none⟩=false:=aj.frozen i 2;have cE:e.cell? ⟨a.heap.size,3,none⟩=some (.int .u8 R.toNat):=aj.cell? h 3;have d2:e.cell? ⟨a.heap.size+1,3,none⟩=some (.int .u8 I.toNat):=aj.cell? i 3;have da:e.frozen? ⟨a.heap.size,3,none⟩=false:=aj.frozen h 3;have di:e.frozen? ⟨a.heap.size+1,3,none⟩=false:=aj.frozen i 3;have cI:e.cell? ⟨a.heap.size,4,none⟩=some (.int .u8 S.toNat):=aj.cell? h 4;have d3:e.cell? ⟨a.heap.size+1,4,none⟩=some (.int .u8 J.toNat):=aj.cell? i 4;have db:e.frozen? ⟨a.heap.size,4,none⟩=false:=aj.frozen h 4;have dl:e.frozen? ⟨a.heap.size+1,4,none⟩=false:=aj.frozen i 4;have cP:e.cell? ⟨a.heap.size,5,none⟩=some (.int .u8 T.toNat):=aj.cell? h 5;have d4:e.cell? ⟨a.heap.size+1,5,none⟩=some (.int .u8 K.toNat):=aj.cell? i 5;have dc:e.frozen? ⟨a.heap.size,5,none⟩=false:=aj.frozen h 5;have dm:e.frozen? ⟨a.heap.size+1,5,none⟩=false:=aj.frozen i 5;have cR:e.cell? ⟨a.heap.size,6,none⟩=some (.int .u8 U.toNat):=aj.cell? h 6;have d5:e.cell? ⟨a.heap.size+1,6,none⟩=some (.int .u8 L.toNat):=aj.cell? i 6;have dd:e.frozen? ⟨a.heap.size,6,none⟩=false:=aj.frozen h 6;have dn:e.frozen? ⟨a.heap.size+1,6,none⟩=false:=aj.frozen i 6;have cS:e.cell? ⟨a.heap.size,7,none⟩=some (.int .u8 V.toNat):=aj.cell? h 7;have d6:e.cell? ⟨a.heap.size+1,7,none⟩=some (.int .u8 M.toNat):=aj.cell? i 7;have de:e.frozen? ⟨a.heap.size,7,none⟩=false:=aj.frozen h 7;have dp:e.frozen? ⟨a.heap.size+1,7,none⟩=false:=aj.frozen i 7)
 all_goals
  go_wp2;refine Rv (k:=8) (k':=9) (j:=10) (d:=[O,P,Q,R,S,T,U,V]) (d':=[Y,Z,a0,a1,a2,a3,a4,a5]) rfl rfl rfl ?_ rfl ?_ rfl rfl rfl ⟨⟨[O,P,Q,R,S,T,U,V],[Y,Z,a0,a1,a2,a3,a4,a5],rfl,rfl,?_,?_⟩,?_⟩
  .exact aj.other8 aA.o (aj.own8 (by exact h))
  .exact aj.own8 (aj.other8 (Ne.symm aA.o) (by exact i))
  .rw[Option.isSome_map];rfl
  .intro X y;cases an:a9 with
   |none=>rw[an]at y;cases y
   |some bl=>
    rw[an]at y;have:=b5.o bl an;subst this;simp only[GN,yN]at y;rw[<-y];exact Prod.ext rfl ax.o
  .exact Below.set8 (Below.set8 b2.o (by omega)) (by omega)
end Go.Proofs.YtekegfbjbainhaaGreat
