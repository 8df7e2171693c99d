import Derived.Test.YtekegfbjbainhaaGreatKJoin5
import Derived.Lib.AppendZerosOnto
set_option maxRecDepth 100000
set_option maxHeartbeats 2000000
set_option linter.unusedVariables false
set_option linter.unusedSimpArgs false
namespace Go.Proofs.YtekegfbjbainhaaGreat
open Go.RowKit
theorem kJ(d:dj)(c:List Pj)(a:List ej)(g:dj)(e:List UInt8)(b:World)(l:d.n=c.length)(k:a.length=c.length)(i:c.length<=60)(o:Mk b d.a c)
  (m:∀f (s:f<c.length) (t:f<a.length),cw b c[f] a[f])(n:qx a)(j:BS b g e):
  CP 29 #[d.val,g.val] b fun h r=>h=.returned (.tuple #[.int .i64 (pj a e:Int),.bool (Qj a e)])/\Below b.heap.size b r:=by
 have p:Hd (Calls _ _ _ _ _):=cW d.a d.cap d.n c a g e b l k i o m n j;clear m o n j l k i;unfold dj.val at*;generalize Qj a e=v at*;generalize pj a e=u at*;go_enter Tryz.func29,Tryz.ntmps29;go_wp2_with fail;refine p.o.mono ?_;rintro h w ⟨rfl,q⟩;go_wp2
 go_ret2
 exact⟨rfl,q⟩
theorem tJ(n:dj)(b:List UInt8)(a:World)(j:BS a n b)(B:b.length<=1000):
  CP 30 #[n.val] a fun w u=>∃o:dj,w=.returned o.val/\BS u o b/\(∀d,o.a=some d->a.heap.size<=d.block)/\Below a.heap.size a u:=by
 obtain⟨p,h,q⟩:=n;obtain⟨f,e,k,_⟩:=j;simp only at f e k;unfold dj.val;have J:=fun a=>run_eql_slice_nil (P:=Tryz.prog) a 38 5 p h q Tryz.underlying38;cases p with
 |none=>
  obtain rfl:b=[]:=by
   cases b with
   |nil=>rfl
   |cons c M=>obtain⟨H,L,x,_⟩:=f 0 (by simp);cases x
  obtain rfl:h=0:=by simpa using e
  obtain rfl:=k rfl;clear f e k B;go_enter Tryz.func30,Tryz.ntmps30;go_wp2;go_ret;exact⟨⟨none,0,0⟩,rfl,⟨jq.nil _ _,rfl,fun _=>rfl,(fun d m=>by cases m)⟩,(fun d m=>by cases m),VM _ _⟩
 |some d=>
  have y:rj (a.alloc (.cells #[] 5)) a.heap.size (.slice (some ⟨a.heap.size,0,none⟩) 0 0) []:=rj.built a a.heap.size [] (TM _) (by simp[maxLen]);have G:jq (a.alloc (.cells #[] 5)) (some d) b:=f.below tO (TM _);have v:Hd (h=b.length):=e;clear e f;go_enter Tryz.func30,Tryz.ntmps30;go_wp2_with (at_builtin;refine Hq (by rfl) (.tmp 5) (.tmp 6) (by rfl) a.heap.size _ [] (by rfl) y (some d) h q b (by rfl) v.o G (fun j=>by cases j) (by simp;omega) (by simp) ?_;intro i t r N C l F z I;clear C);go_ret;obtain⟨_,D,E⟩:=l.sl;have s:∀c,i=some c->(Value.slice i t r).ownBlock=some c.block:=fun c g=>by rw[g];rfl
  refine⟨⟨i,t,r⟩,rfl,⟨F,D,E,fun c g=>(l.lt _ (s c g)).2⟩,fun c g=>?_,?_⟩
  .exact(l.lt _ (s c g)).1
  .exact tO.trans (z.below (by simp) (fun K A=>by simp[Value.ownBlock]at A;omega))
def pN(a:List (dj×List Value)):Nat:=(a.map (·.1.n)).sum
def pC(a:List (dj×List Value)):List Value:=a.flatMap (·.2)
structure aG(w:World)(size:Nat)(p:dj×List Value):Prop where
 sl:jj w p.1.a p.2
 len:p.2.length=p.1.n*size
 nil:p.1.a=none->p.1.n=0/\p.1.cap=0
 one:∀u∈p.2,u.oneCell'=true
theorem ZW(b:List (dj×List Value))(a:Nat)(c:a<b.length):pN (b.take (a+1))=pN (b.take a)+b[a].1.n:=by
 unfold pN;rw[RN c,rN,List.sum_append];simp
theorem aU(b:List (dj×List Value))(a:Nat)(c:a<b.length):pC (b.take (a+1))=pC (b.take a)++b[a].2:=by
 unfold pC;rw[RN c,KN];simp
theorem GL(a:List (dj×List Value))(b:Nat):pN (a.take b)<=pN a:=by
 conv=>rhs;rw[<-Naj b a]
 unfold pN;rw[rN,List.sum_append];omega
theorem Tryz.infoEntry:(Tryz.prog.info? 74).map (fun a=>(a.zero,a.size,a.bytes))=some (some (.agg #[.slice none 0 0,.slice none 0 0,.int .u8 0,.int .u8 0,.int .u8 0,.int .u8 0,.int .u8 0,.int .u8 0,.int .u8 0,.int .u8 0]),10,56):=by kernel_rfl
theorem Tryz.infoNodeP:(Tryz.prog.info? 138).map (fun a=>(a.zero,a.size,a.bytes))=some (some (.pointer none),1,8):=by kernel_rfl
theorem XJ(b:Array Value)(a:Nat):(Builtin.zeroCells b a).size=a*b.size:=by
 unfold Builtin.zeroCells;simp[Array.size_flatten,List.sum_replicate_nat]
theorem FX(a:World)(c:TypeId)(d:Value)(e b:Nat)(g:d.cells.size=e)(f:b<=maxLen):
  (a.drew.alloc (.cells (Builtin.zeroCells d.cells b++Builtin.zeroCells d.cells (grownCap a b 0 c - b)) c)).ownsRow a.heap.size c e (.slice (some ⟨a.heap.size,0,none⟩) 0 (grownCap a b 0 c)) 0 []:=by
 refine⟨by simp,RM ⟨a.heap.size,grownCap a b 0 c,Builtin.zeroCells d.cells b++Builtin.zeroCells d.cells (grownCap a b 0 c - b),rfl,TM _,?_,nN _,grownCap_le_maxLen a b 0 c f,?_,by simp⟩⟩
 .show(a.heap.push _)[a.heap.size]? =_;simp
 .rw[Array.size_append,XJ,XJ,g,<-Nat.add_mul];have:=grownCap_ge a b 0 c;rw[Nat.add_sub_cancel' this]
theorem bG(b:Nat)(a:World)(J:b<=100000):
  CP 115 #[.slice none 0 0,.int .i64 b] a fun x t=>∃s:dj,x=.returned s.val/\t.ownsRow a.heap.size 74 10 s.val 0 []/\Below a.heap.size a t:=by
 by_cases y:b=0
 .subst y;go_enter Tryz.func115,Tryz.ntmps115;go_wp2;go_ret;exact⟨⟨none,0,0⟩,rfl,iN _ _ _ _,VM _ _⟩
 .have D:(0:Int)<b:=by omega
  have E:¬(b:Int)<0:=by omega
  have F:(b:Int)<=100000:=by omega
  obtain⟨C,m,r,q,k⟩:=info_parts Tryz.infoEntry;have o:=fun(a:World) (d:TypeId)=>Lib.run_append_nil_zeros (P:=Tryz.prog) a 67 3 d 74 C _ .i64 .i64 Tryz.underlying67 Tryz.underlying3 m r b (by omega) (by rw[q];decide) (by omega) (by rw[k];omega);have i:Hd (World.ownsRow _ _ _ _ _ _ _):=FX a 74 (.agg #[.slice none 0 0,.slice none 0 0,.int .u8 0,.int .u8 0,.int .u8 0,.int .u8 0,.int .u8 0,.int .u8 0,.int .u8 0,.int .u8 0]) 10 b rfl (by unfold maxLen;omega);have g:=grownCap_ge a b 0 74;have h:=grownCap_le_maxLen a b 0 74 (by unfold maxLen;omega);unfold maxLen at h;have f:Hd (BB a (a.drew.alloc (.cells (Builtin.zeroCells (Value.cells (.agg #[.slice none 0 0,.slice none 0 0,.int .u8 0,.int .u8 0,.int .u8 0,.int .u8 0,.int .u8 0,.int .u8 0,.int .u8 0,.int .u8 0])) b++Builtin.zeroCells (Value.cells (.agg #[.slice none 0 0,.slice none 0 0,.int .u8 0,.int .u8 0,.int .u8 0,.int .u8 0,.int .u8 0,.int .u8 0,.int .u8 0,.int .u8 0])) (grownCap a b 0 74 - b)) 74))):=by
   exact((bj.refl (fun _=>False) a).drew.alloc _).below (TM _) (fun K A=>by cases A)
  have z:(0:Int)<=(grownCap a b 0 74:Int):=by omega
  have l:(grownCap a b 0 74:Int)<=9223372036854775807:=by omega
  have B:∃e:World,∃c:Nat,(∀d,(Builtin.append_ #[67,3] d #[.slice none 0 0,.int .i64 b]).run Tryz.prog a=.ok (.slice (some ⟨a.heap.size,0,none⟩) b c) e)/\b<=c/\(c:Int)<=9223372036854775807/\
    e.ownsRow a.heap.size 74 10 (.slice (some ⟨a.heap.size,0,none⟩) 0 c) 0 []/\Below a.heap.size a e:=
   ⟨_,_,fun d=>o a d,g,l,i.o,f.o⟩
  obtain⟨e,c,p,H,I,n,j⟩:=B;have w:Hd (∀d,_):=p;have v:Hd (World.ownsRow _ _ _ _ _ _ _):=n;have u:Hd (Below _ _ _):=j;clear o i g h f z l p n j m r q k;have G:(0:Int)<=c:=by omega
  go_enter Tryz.func115,Tryz.ntmps115;go_wp2_with (at_builtin;refine Lib.wpList_append_run _ rfl _ _ _ _ rfl _ _ rfl rfl _ _ (w.o _) ?_);go_ret;exact⟨⟨some ⟨a.heap.size,0,none⟩,0,c⟩,rfl,v.o,u.o⟩
theorem AZ(q h:Nat)(a:List (dj×List Value))(f:World)(w:h=a.length)(a6:a.length<=3)(H:pN a<=1000)(I:∀d (r:d<a.length),f.cell? ⟨q,d,none⟩=some a[d].1.val)(ad:q<f.heap.size)(Q:∀ag∈a,aG f 10 ag):
  CP 79 #[.slice (some ⟨q,0,none⟩) h h] f fun E T=>∃t:dj,E=.returned t.val/\T.ownsRow f.heap.size 74 10 t.val (pN a) (pC a)/\Below f.heap.size f T:=by
 have L:=fun b=>GL a b;have A:Hd (∀b,pN (a.take b)<=pN a):=L;have z:Hd (∀(wr:World),BB f wr->∀d (r:d<h),∃j c n i,wr.cell? ⟨q,d,none⟩=some (.slice j c n)/\pN (a.take (d+1))=pN (a.take d)+c/\pC (a.take (d+1))=pC (a.take d)++i/\jj wr j i/\i.length=c*10/\(j=none->c=0/\n=0)/\(∀x∈i,x.oneCell'=true)):=fun wr k d r=>by
  have s:d<a.length:=by omega
  have g:=Q a[d] (bN s);exact⟨_,_,_,a[d].2,by rw[k.cell (p:=⟨q,d,none⟩) ad];exact I d s,ZW a d s,aU a d s,g.sl.below_all k,g.len,g.nil,g.one⟩
 have X:Hd (pN (a.take h)=pN a):=by unfold Hd;rw[w,raj]
 have W:Hd (pC (a.take h)=pC a):=by unfold Hd;rw[w,raj]
 have am:h<=3:=by omega
 have Y:Hd (∀c (f:World),c<=100000->_):=fun c f r=>bG c f r;have B:Hd (pN a<=1000):=H;have G:pN (a.take 0)=0:=by simp[pN]
 have F:pC (a.take 0)=[]:=by simp[pC]
 have y:Hd (pN (a.take 0)=0):=G;have U:Hd (pC (a.take 0)=[]):=F;clear L Q I w a6 H G F;go_enter Tryz.func79,Tryz.ntmps79;go_wp2
 go_loop [3,5,11] (fun ai _ l=>∃b g:Nat,b<=h/\l=.int .i64 b/\ai=.int .i64 g/\g<=1000/\Hd (g=pN (a.take b))) (fun _ _ l=>h - (intOf l).toNat)
 case atStart=>exact⟨0,0,by omega,by simp,by simp,by omega,by unfold Hd;exact y.o.symm⟩
 case round=>
  obtain⟨b,g,K,rfl,rfl,an,C⟩:=hrel;by_cases aa:b<h
  .have ac:(b:Int)<h:=by omega
   obtain⟨j,c,n,i,a8,o,_⟩:=z.o f (VM _ _) b aa;have ae:g+c<=1000:=by have:=A.o (b+1);have:=B.o;have:=C.o;omega
   have v:Hd (pN (a.take (b+1))=pN (a.take b)+c):=o;have ao:¬((g:Int)+c<0):=by omega
   have ap:(g:Int)+c<=1000:=by omega
   clear o;go_wp2
   go_round
   case rel=>exact⟨b+1,g+c,by omega,by go_num,by go_num,ae,by unfold Hd;rw[v.o,<-C.o]⟩
   case measure=>simp[intOf];omega
  .obtain rfl:b=h:=by omega
   go_wp2_with fail;refine(Y.o g f (by omega)).mono ?_;rintro E au ⟨t,rfl,N,a7⟩;have a0:Hd (World.ownsRow _ _ _ _ _ _ _):=N;clear N;unfold dj.val;go_wp2
   go_loopw [6,8,27] (fun ah _ l wr=>∃(e:Nat) (m:dj),e<=b/\l=.int .i64 e/\ah=m.val/\Hd (wr.ownsRow f.heap.size 74 10 m.val (pN (a.take e)) (pC (a.take e)))/\Below f.heap.size f wr) (fun _ _ l _=>b - (intOf l).toNat)
   case atStart=>exact⟨0,t,by omega,by simp,rfl,by rw[y.o,U.o];exact a0,a7⟩
   case round=>
    obtain⟨e,m,al,rfl,rfl,u,k⟩:=hrel;by_cases ab:e<b
    .have ac:(e:Int)<b:=by omega
     obtain⟨j,c,n,i,a8,o,R,S,J,M,P⟩:=z.o wr k e ab;have v:Hd (pN (a.take (e+1))=pN (a.take e)+c):=o;have a2:Hd (pC (a.take (e+1))=pC (a.take e)++i):=R;have a3:Hd (jj wr j i):=S;have V:Hd (i.length=c*10):=J;have Z:Hd (j=none->c=0/\n=0):=M;have a1:Hd (∀x∈i,x.oneCell'=true):=P;have D:Hd (pN (a.take e)+c<=1000):=by have:=A.o (e+1);have:=B.o;unfold Hd;omega
     clear o R S J M P;unfold dj.val;go_wp2_with (at_builtin;refine rq (by rfl) (.tmp 31) (.tmp 32) 67 (by rfl) f.heap.size 74 _ 10 56 Tryz.underlying67 Tryz.infoEntry rfl (by decide) (.slice m.a m.n m.cap) (pN (a.take e)) (pC (a.take e)) (by rfl) u.o j c n i (by rfl) V.o a3.o Z.o a1.o (by have:=D.o;unfold maxLen;omega) (by have:=D.o;omega) k.size ?_;intro ar av O a9 ak;obtain⟨a4,a5,af,_⟩:=Nj O;subst af);refine⟨⟨e+1,⟨a4,_,a5⟩,by omega,by go_num,rfl,?_,?_⟩,by simp[intOf];omega⟩
     .unfold Hd;rw[v.o,a2.o];exact O
     .exact k.trans (a9.below k.size (fun b K=>(u.o.lt b K).1))
    .obtain rfl:e=b:=by omega
     unfold dj.val;go_wp2;go_ret;refine⟨m,rfl,?_,k⟩;rw[<-X.o,<-W.o];exact u.o
theorem cG(b:Nat)(a:World)(J:b<=100000):
  CP 118 #[.slice none 0 0,.int .i64 b] a fun x t=>∃s:dj,x=.returned s.val/\t.ownsRow a.heap.size 138 1 s.val 0 []/\Below a.heap.size a t:=by
 by_cases y:b=0
 .subst y;go_enter Tryz.func118,Tryz.ntmps118;go_wp2;go_ret;exact⟨⟨none,0,0⟩,rfl,iN _ _ _ _,VM _ _⟩
 .have D:(0:Int)<b:=by omega
  have E:¬(b:Int)<0:=by omega
  have F:(b:Int)<=100000:=by omega
  obtain⟨C,m,r,q,k⟩:=info_parts Tryz.infoNodeP;have o:=fun(a:World) (d:TypeId)=>Lib.run_append_nil_zeros (P:=Tryz.prog) a 128 3 d 138 C _ .i64 .i64 Tryz.underlying128 Tryz.underlying3 m r b (by omega) (by rw[q];decide) (by omega) (by rw[k];omega);have i:Hd (World.ownsRow _ _ _ _ _ _ _):=FX a 138 (.pointer none) 1 b rfl (by unfold maxLen;omega);have g:=grownCap_ge a b 0 138;have h:=grownCap_le_maxLen a b 0 138 (by unfold maxLen;omega);unfold maxLen at h;have f:Hd (BB a (a.drew.alloc (.cells (Builtin.zeroCells (Value.cells (.pointer none)) b++Builtin.zeroCells (Value.cells (.pointer none)) (grownCap a b 0 138 - b)) 138))):=by
   exact((bj.refl (fun _=>False) a).drew.alloc _).below (TM _) (fun K A=>by cases A)
  have z:(0:Int)<=(grownCap a b 0 138:Int):=by omega
  have l:(grownCap a b 0 138:Int)<=9223372036854775807:=by omega
  have B:∃e:World,∃c:Nat,(∀d,(Builtin.append_ #[128,3] d #[.slice none 0 0,.int .i64 b]).run Tryz.prog a=.ok (.slice (some ⟨a.heap.size,0,none⟩) b c) e)/\b<=c/\(c:Int)<=9223372036854775807/\
    e.ownsRow a.heap.size 138 1 (.slice (some ⟨a.heap.size,0,none⟩) 0 c) 0 []/\Below a.heap.size a e:=
   ⟨_,_,fun d=>o a d,g,l,i.o,f.o⟩
  obtain⟨e,c,p,H,I,n,j⟩:=B;have w:Hd (∀d,_):=p;have v:Hd (World.ownsRow _ _ _ _ _ _ _):=n;have u:Hd (Below _ _ _):=j;clear o i g h f z l p n j m r q k;have G:(0:Int)<=c:=by omega
  go_enter Tryz.func118,Tryz.ntmps118;go_wp2_with (at_builtin;refine Lib.wpList_append_run _ rfl _ _ _ _ rfl _ _ rfl rfl _ _ (w.o _) ?_);go_ret;exact⟨⟨some ⟨a.heap.size,0,none⟩,0,c⟩,rfl,v.o,u.o⟩
theorem dW(q h:Nat)(a:List (dj×List Value))(f:World)(w:h=a.length)(a6:a.length<=3)(H:pN a<=1000)(I:∀d (r:d<a.length),f.cell? ⟨q,d,none⟩=some a[d].1.val)(ad:q<f.heap.size)(Q:∀ag∈a,aG f 1 ag):
  CP 82 #[.slice (some ⟨q,0,none⟩) h h] f fun E T=>∃t:dj,E=.returned t.val/\T.ownsRow f.heap.size 138 1 t.val (pN a) (pC a)/\Below f.heap.size f T:=by
 have L:=fun b=>GL a b;have A:Hd (∀b,pN (a.take b)<=pN a):=L;have z:Hd (∀(wr:World),BB f wr->∀d (r:d<h),∃j c n i,wr.cell? ⟨q,d,none⟩=some (.slice j c n)/\pN (a.take (d+1))=pN (a.take d)+c/\pC (a.take (d+1))=pC (a.take d)++i/\jj wr j i/\i.length=c*1/\(j=none->c=0/\n=0)/\(∀x∈i,x.oneCell'=true)):=fun wr k d r=>by
  have s:d<a.length:=by omega
  have g:=Q a[d] (bN s);exact⟨_,_,_,a[d].2,by rw[k.cell (p:=⟨q,d,none⟩) ad];exact I d s,ZW a d s,aU a d s,g.sl.below_all k,g.len,g.nil,g.one⟩
 have X:Hd (pN (a.take h)=pN a):=by unfold Hd;rw[w,raj]
 have W:Hd (pC (a.take h)=pC a):=by unfold Hd;rw[w,raj]
 have am:h<=3:=by omega
 have Y:Hd (∀c (f:World),c<=100000->_):=fun c f r=>cG c f r;have B:Hd (pN a<=1000):=H;have G:pN (a.take 0)=0:=by simp[pN]
 have F:pC (a.take 0)=[]:=by simp[pC]
 have y:Hd (pN (a.take 0)=0):=G;have U:Hd (pC (a.take 0)=[]):=F;clear L Q I w a6 H G F;go_enter Tryz.func82,Tryz.ntmps82;go_wp2
 go_loop [3,5,11] (fun ai _ l=>∃b g:Nat,b<=h/\l=.int .i64 b/\ai=.int .i64 g/\g<=1000/\Hd (g=pN (a.take b))) (fun _ _ l=>h - (intOf l).toNat)
 case atStart=>exact⟨0,0,by omega,by simp,by simp,by omega,by unfold Hd;exact y.o.symm⟩
 case round=>
  obtain⟨b,g,K,rfl,rfl,an,C⟩:=hrel;by_cases aa:b<h
  .have ac:(b:Int)<h:=by omega
   obtain⟨j,c,n,i,a8,o,_⟩:=z.o f (VM _ _) b aa;have ae:g+c<=1000:=by have:=A.o (b+1);have:=B.o;have:=C.o;omega
   have v:Hd (pN (a.take (b+1))=pN (a.take b)+c):=o;have ao:¬((g:Int)+c<0):=by omega
   have ap:(g:Int)+c<=1000:=by omega
   clear o;go_wp2
   go_round
   case rel=>exact⟨b+1,g+c,by omega,by go_num,by go_num,ae,by unfold Hd;rw[v.o,<-C.o]⟩
   case measure=>simp[intOf];omega
  .obtain rfl:b=h:=by omega
   go_wp2_with fail;refine(Y.o g f (by omega)).mono ?_;rintro E au ⟨t,rfl,N,a7⟩;have a0:Hd (World.ownsRow _ _ _ _ _ _ _):=N;clear N;unfold dj.val;go_wp2
   go_loopw [6,8,27] (fun ah _ l wr=>∃(e:Nat) (m:dj),e<=b/\l=.int .i64 e/\ah=m.val/\Hd (wr.ownsRow f.heap.size 138 1 m.val (pN (a.take e)) (pC (a.take e)))/\Below f.heap.size f wr) (fun _ _ l _=>b - (intOf l).toNat)
   case atStart=>exact⟨0,t,by omega,by simp,rfl,by rw[y.o,U.o];exact a0,a7⟩
   case round=>
    obtain⟨e,m,al,rfl,rfl,u,k⟩:=hrel;by_cases ab:e<b
    .have ac:(e:Int)<b:=by omega
     obtain⟨j,c,n,i,a8,o,R,S,J,M,P⟩:=z.o wr k e ab;have v:Hd (pN (a.take (e+1))=pN (a.take e)+c):=o;have a2:Hd (pC (a.take (e+1))=pC (a.take e)++i):=R;have a3:Hd (jj wr j i):=S;have V:Hd (i.length=c*1):=J;have Z:Hd (j=none->c=0/\n=0):=M;have a1:Hd (∀x∈i,x.oneCell'=true):=P;have D:Hd (pN (a.take e)+c<=1000):=by have:=A.o (e+1);have:=B.o;unfold Hd;omega
     clear o R S J M P;unfold dj.val;go_wp2_with (at_builtin;refine rq (by rfl) (.tmp 31) (.tmp 32) 128 (by rfl) f.heap.size 138 _ 1 8 Tryz.underlying128 Tryz.infoNodeP rfl (by decide) (.slice m.a m.n m.cap) (pN (a.take e)) (pC (a.take e)) (by rfl) u.o j c n i (by rfl) V.o a3.o Z.o a1.o (by have:=D.o;unfold maxLen;omega) (by have:=D.o;omega) k.size ?_;intro ar av O a9 ak;obtain⟨a4,a5,af,_⟩:=Nj O;subst af);refine⟨⟨e+1,⟨a4,_,a5⟩,by omega,by go_num,rfl,?_,?_⟩,by simp[intOf];omega⟩
     .unfold Hd;rw[v.o,a2.o];exact O
     .exact k.trans (a9.below k.size (fun b K=>(u.o.lt b K).1))
    .obtain rfl:e=b:=by omega
     unfold dj.val;go_wp2;go_ret;refine⟨m,rfl,?_,k⟩;rw[<-X.o,<-W.o];exact u.o
def Fz(a:Option Addr)(c b d:Nat):Option Addr:=if c=b then a else a.map (fun e=>e.add (b*d))
theorem Mw{b:Option Addr}{c d e:Nat}(a:Fz b c d e=none):b=none:=by
 unfold Fz at a
 split at a
 .exact a
 .simpa using a
theorem GX{c:Option Addr}{e f g:Nat}{d:Addr}(a:Fz c e f g=some d):∃b,c=some b/\b.block=d.block:=by
 unfold Fz at a
 split at a
 .exact⟨d,a,rfl⟩
 .cases c with
  |none=>cases a
  |some b=>
   simp at a;refine⟨b,rfl,?_⟩;rw[<-a];unfold Addr.add;split<;>rfl
theorem jj.cut{e:World}{c:Option Addr}{a:List Value}{n cap i size:Nat}(h:jj e c a)(m:a.length=n*size)(r:i<=n)(q:n<=cap):jj e (Fz c cap i size) (a.drop (i*size)):=fun o b=>by
 have d:(a.drop (i*size)).length=a.length - i*size:=oN;by_cases g:cap=i
 .exfalso;have:n=i:=by omega
  rw[d,m,this]at b;simp at b
 .obtain⟨f,p,j,k,l⟩:=h (i*size+o) (by rw[d]at b;omega);refine⟨f,p+i*size,?_,k,?_⟩
  .unfold Fz;rw[if_neg g,j];simp[Addr.add_mid]
  .rw[paj,l];simp
theorem jj.take{d:World}{b:Option Addr}{a:List Value}(f:jj d b a)(l:Nat):jj d b (a.take l):=fun c k=>by
 have g:c<a.length:=by rw[aN]at k;omega
 obtain⟨e,m,h,i,j⟩:=f c g;exact⟨e,m,h,i,by rw[j];simp⟩
theorem eW{b:Program}{w:World}(j e:TypeId)(i:Option Addr)(c d a h:Nat)(n:b.underlying j=some (.slice e))(g:(b.info? e).map (·.size)=some h)(l:a<=c)(o:c<=d):
  (Instr.slice j (.slice i c d) (some (.int .i64 a)) none none).run b w=.ok (.slice (Fz i d a h) (c - a) (d - a)) w:=by
 have k:(a:Int)<=c:=by omega
 have m:(Go.sizeOf e).run b w=.ok h w:=by
  cases f:b.info? e with
  |none=>simp[f]at g
  |some p=>simp[f]at g;simp[sizeOf,typeInfo,f,g]
 simp[Instr.slice,run_underlying n,Instr.sliceBounds,Instr.sliceBound,asIntOf,k,l,Result.andThen,m,Fz]
theorem fW{c:Program}{w:World}(j e:TypeId)(i:Option Addr)(q d a b h:Nat)(p:c.underlying j=some (.slice e))(g:(c.info? e).map (·.size)=some h)(m:a<=b)(n:b<=d):
  (Instr.slice j (.slice i q d) (some (.int .i64 a)) (some (.int .i64 b)) none).run c w=.ok (.slice (Fz i d a h) (b - a) (d - a)) w:=by
 have k:(a:Int)<=b:=by omega
 have l:(b:Int)<=d:=by omega
 have o:(Go.sizeOf e).run c w=.ok h w:=by
  cases f:c.info? e with
  |none=>simp[f]at g
  |some r=>simp[f]at g;simp[sizeOf,typeInfo,f,g]
 simp[Instr.slice,run_underlying p,Instr.sliceBounds,Instr.sliceBound,asIntOf,k,l,m,n,Result.andThen,o,Fz]
theorem dw{d:Program}{n:Array Oper}{rest:List Oper}{f:Oper}{e:Act}{k:World}{l:Exit->Act->World->Prop}(r:f.guard=none)(j h:TypeId)(o m:Operand)(v:f.op=.slice j o (some m) none none)
  (g:Option Addr)(c b a i:Nat)(z:e.eval o=.slice g c b)(t:e.eval m=.int .i64 a)(y:d.underlying j=some (.slice h))(x:(d.info? h).map (·.size)=some i)(s:a<=c)(u:c<=b)
  (p:wpList d n l rest (e.put f.dst (.slice (Fz g b a i) (c - a) (b - a))) k):wpList d n l (f::rest) e k:=by
 refine wpList_plain r fun A q=>?_;have B:=eW (w:=k) j h g c b a i y x s u;unfold Oper.wp execOp;simp only[v,Option.map,z,t];go_simp;exact q _ _ p
theorem Zw{e:Program}{p:Array Oper}{rest:List Oper}{f:Oper}{b:Act}{k:World}{l:Exit->Act->World->Prop}(t:f.guard=none)(j h:TypeId)(q n m:Operand)(z:f.op=.slice j q (some n) (some m) none)
  (g:Option Addr)(o c a d i:Nat)(C:b.eval q=.slice g o c)(y:b.eval n=.int .i64 a)(u:b.eval m=.int .i64 d)(B:e.underlying j=some (.slice h))(A:(e.info? h).map (·.size)=some i)(v:a<=d)(x:d<=c)
  (r:wpList e p l rest (b.put f.dst (.slice (Fz g c a i) (d - a) (c - a))) k):wpList e p l (f::rest) b k:=by
 refine wpList_plain t fun D s=>?_;have E:=fW (w:=k) j h g o c a d i B A v x;unfold Oper.wp execOp;simp only[z,Option.map,C,y,u];go_simp;exact s _ _ r
structure Iz(w:World)(en:dj)(xs:List Pj)(its:List ej):Prop where
 own:w.ownsRow 0 74 10 en.val xs.length (Sj xs)
 len:its.length=xs.length
 ok:∀i (h1:i<xs.length) (h2:i<its.length),cw w xs[i] its[i]
def tx(d:dj)(e:List Pj)(b:Nat):Prop:=d.val.ownBlock=some b\/∃c∈e,(∃a,c.k.a=some a/\a.block=b)\/(∃a,c.v.a=some a/\a.block=b)
theorem Iz.frame{k l:World}{S:Nat->Prop}{b:dj}{g:List Pj}{j:List ej}(c:Iz k b g j)(i:bj S k l)(e:∀a,tx b g a->¬S a):Iz l b g j:=
 ⟨ij c.own i (fun a n=>e a (SM n)),c.len,fun o d m=>(c.ok o d m).frame i (fun h f=>e _ (RM ⟨_,bN d,SM ⟨h,f,rfl⟩⟩)) (fun h f=>e _ (RM ⟨_,bN d,RM ⟨h,f,rfl⟩⟩))⟩
theorem Iz.below{w w':World}{b:dj}{e:List Pj}{d:List ej}(a:Iz w b e d)(c:Below w.heap.size w w'):Iz w' b e d:=
 ⟨lj a.own c,a.len,fun h f g=>(a.ok h f g).below c⟩
theorem Iz.d8{i:World}{d:dj}{c:List Pj}{h:List ej}(a:Iz i d c h):∀b∈c,b.d.length=8:=fun b f=>by
 obtain⟨g,e,rfl⟩:=PN f;rw[(a.ok g e (by have:=a.len;omega)).dig];rfl
def nz(a:List Pj)(c:Nat)(b:List Pj)(d:Nat):List Pj:=a.take c++b++a.drop d
theorem UQ(a:List Pj)(d:∀c∈a,c.d.length=8)(b:Nat)(e:b<=a.length):Sj (a.take b)=(Sj a).take (b*10):=(VV qv 10 a (fun c f=>Gx c (d c f)) b e).symm
theorem uJ(a:List Pj)(d:∀c∈a,c.d.length=8)(b:Nat)(e:b<=a.length):Sj (a.drop b)=(Sj a).drop (b*10):=(NQ qv 10 a (fun c f=>Gx c (d c f)) b e).symm
theorem bj.inside{c h:Nat->Prop}{d i j:World}(a:bj c d i)(b:bj h i j)(l:∀g,g<d.heap.size->h g->c g):bj c d j:=
 ⟨b.os.trans a.os,b.tape.trans a.tape,b.output.trans a.output,WM a.size b.size,fun f e k=>(b.block f (qN e a.size) (fun m=>k (l f e m))).trans (a.block f e k)⟩
theorem JY(a:Nat)(d:dj)(c:List UInt8)(b:World)(N:a<=200)(h:BS b d c)(q:c.length<=200):
  CP 156 #[.int .i64 a,d.val] b fun l D=>l=.returned (.bool (Sx a c))/\Below b.heap.size b D:=by
 have O:(a:Int)<=200:=by omega
 have y:rj (b.alloc (.cells #[.int .u8 (a:Int)] 5)) b.heap.size (.slice (some ⟨b.heap.size,0,none⟩) 1 1) [bt a]:=by
  have:=rj.built b b.heap.size [bt a] (TM _) (by simp[maxLen]);simp only[ZM,dN]at this;rw[Uk (by omega)]at this;exact this
 have j:jq (b.alloc (.cells #[.int .u8 (a:Int)] 5)) d.a c:=h.sl.below tO (TM _);obtain⟨f,g⟩:∃f,f=Aj (bt a::c):=⟨_,rfl⟩;have p:f.length=8:=by rw[g];rfl
 obtain⟨E,F,G,H,I,J,K,e,rfl⟩:=uj f p;have k:Hd (Sx a c=(decide (a<6)&&e.toNat%4==0)):=by
  unfold Hd Sx;rw[<-g];rfl
 have u:Hd (By (bt a::c)=.agg (cO E F G H I J K e)):=by
  unfold Hd;rw[kx,<-g];rfl
 clear g p;have M:(e.toNat:Int)<=255:=by have:=e.toNat_lt;omega
 have s:Hd (d.n=c.length):=h.n;have t:Hd (d.a=none->d.cap=0):=h.nil;unfold dj.val;by_cases o:a<6
 .have r:¬(6:Int)<=(a:Int):=by omega
  go_enter Tryz.func156,Tryz.ntmps156;go_wp2_with (at_builtin;refine Hq (by rfl) (.tmp 10) (.tmp 11) (by rfl) b.heap.size _ [bt a] (by rfl) y d.a d.n d.cap c (by rfl) s.o j t.o (by simp;omega) (by simp) ?_;intro v R w S i C j A x;clear i x);obtain⟨_,i,P⟩:=C.sl;refine(cJ v _ w (bt a::c) _ (by rw[i];simp) (by simp[maxLen];omega) (by simpa using j)).mono ?_;rintro l T ⟨rfl,z⟩;rw[u.o];go_wp2;go_ret;refine⟨?_,?_⟩
  .rw[k.o];show Ending.returned (.bool ((e.toNat:Int)%4==0))=_;rw[EY];simp[o]
  .have m:=A.below (B:=b.heap.size) (by simp) (fun Q q=>by simp[Value.ownBlock]at q;omega);have L:=m.size;simp only[YM]at L;have n:=(((VM b.heap.size b).alloc (TM _) (.cells #[.int .u8 (a:Int)] 5)).trans m).trans (z.mono (by omega));exact n.alloc (by have:=n.size;omega) _
 .have r:(6:Int)<=(a:Int):=by omega
  go_enter Tryz.func156,Tryz.ntmps156;go_wp2;go_ret;exact⟨by rw[k.o];simp[o],VM _ _⟩
theorem KY(b d:dj)(a:World):
  CP 139 #[.agg #[b.val,d.val,.int .u8 0,.int .u8 0,.int .u8 0,.int .u8 0,.int .u8 0,.int .u8 0,.int .u8 0,.int .u8 0]] a fun c e=>c=.returned b.val/\Below a.heap.size a e:=by
 unfold dj.val;go_enter Tryz.func139,Tryz.ntmps139;go_wp2;go_ret;exact⟨rfl,by go_grown⟩
theorem gW(c:Nat)(b:dj)(a:World)(f:a.cell? ⟨c,0,none⟩=some b.val):
  CP 141 #[.pointer (some ⟨c,0,none⟩)] a fun d e=>d=.returned b.val/\Below a.heap.size a e:=by
 unfold dj.val at*;go_enter Tryz.func141,Tryz.ntmps141;go_wp2;go_ret;exact⟨rfl,VM _ _⟩
theorem BZ(f:Nat)(c e:dj)(h a:List UInt8)(b:World)(q:rj b f c.val h)(j:BS b e a)(J:∀d,e.a=some d->d.block<f)(R:f<=b.heap.size)(S:h.length<=100000)(T:a.length<=200):
  CP 160 #[c.val,e.val] b fun g v=>∃u:dj,g=.returned u.val/\rj v f u.val (h++bt a.length::a)/\bj (fun m=>c.val.ownBlock=some m) b v:=by
 have B:jq (b.alloc (.cells #[.int .u8 (a.length:Int)] 5)) (some ⟨b.heap.size,0,none⟩) [bt a.length]:=by
  refine jq.of_row (t:=5) ?_;rw[ZM,dN,Uk (by omega)];exact aj.new b _ _
 have U:(a.length:Int)<=200:=by omega
 have x:Hd (e.n=a.length):=j.n;have p:=j.n;have n:Hd (e.a=none->e.cap=0):=j.nil;have F:rj (b.alloc (.cells #[.int .u8 (a.length:Int)] 5)) f (.slice c.a c.n c.cap) h:=q.alloc _;have r:jq (b.alloc (.cells #[.int .u8 (a.length:Int)] 5)) e.a a:=j.sl.below tO (TM _);have w:Hd (bj (fun m=>(Value.slice c.a c.n c.cap).ownBlock=some m) b (b.alloc (.cells #[.int .u8 (a.length:Int)] 5))):=(bj.refl _ _).alloc _;have o:Hd (∀d,e.a=some d->¬(Value.slice c.a c.n c.cap).ownBlock=some d.block):=fun d k g=>by have:=(q.lt _ g).1;have:=J d k;omega
 obtain⟨s,Y,M⟩:=e;simp only at p x n r o;subst p;unfold dj.val at*;simp only;go_enter Tryz.func160,Tryz.ntmps160;go_wp2_with (first
  |(at_builtin;refine Hq (by rfl) (.tmp 5) (.tmp 9) (by rfl) f _ h (by rfl) F (some ⟨b.heap.size,0,none⟩) 1 1 [bt a.length] (by rfl) (by rfl) B (fun i=>by cases i) (by simp;omega) (by simp;omega) ?_;intro O X P N D G V l A;have I:jq N s a:=jq.frame r l (fun d k=>o.o d k);have K:=l.size;clear D)
  |(at_builtin;refine Hq (by rfl) (.tmp 10) (.tmp 11) (by rfl) f _ (h++[bt a.length]) (by rfl) G s a.length M a (by rfl) rfl I n.o (by simp;omega) (by simp only[YM]at K;omega) ?_;intro y L z Z E H W C Q;clear E))
 go_ret;refine⟨⟨y,L,z⟩,rfl,by simpa using H,?_⟩;refine bj.inside (w.o.trans l) C (fun d k g=>?_);rcases A with i|i
 .rw[<-i];exact g
 .exfalso;rw[i]at g;simp only[YM,yN]at g;omega
theorem xv{o:Array Oper}{rest:List Oper}{e:Oper}{d:Act}{f:World}{k:Exit->Act->World->Prop}(r:e.guard=none)(c:TypeId)(i j:Operand)(t:e.op=.store c i j)
  (b:Nat)(u:d.eval i=.pointer (some ⟨b,0,none⟩))(a:List Value)(v:d.eval j=.agg a.toArray){n:List Value}(l:aj f b c n)(m:n.length=a.length)(s:(Tryz.prog.info? c).map (·.size)=some a.length)(q:∀w∈a,w.oneCell'=true)
  (p:∀g,aj g b c a->bj (fun h=>h=b) f g->g.heap.size=f.heap.size->wpList Tryz.prog o k rest (d.put e.dst undef) g):wpList Tryz.prog o k (e::rest) d f:=by
 refine wpList_store_mid r c i j t b 0 a.toArray u v (by simpa using l.there a.length m.symm) (by simpa using s) (all_oneCell_toArray q) ?_;exact p _ (l.setAll _ m.symm) (bj.setCells (S:=fun h=>h=b) rfl _ _ _ (bj.refl _ _)) (Cx _ _ _ _)
structure ZV(w:World)(level:Nat)(x:Pj)(it:ej):Prop where
 key:BS w x.k it.key
 val:level=0->BS w x.v it.more
 dig:level≠0->x.d=it.more
 d8:x.d.length=8
theorem ZV.below{w w':World}{d:Nat}{e:Pj}{c:ej}(a:ZV w d e c)(b:Below w.heap.size w w'):ZV w' d e c:=⟨a.key.below b,fun f=>(a.val f).below b,a.dig,a.d8⟩
theorem cw.toL{c:World}{d:Pj}{b:ej}(a:cw c d b):ZV c 0 d b:=⟨a.key,fun _=>a.val,fun e=>absurd rfl e,by rw[a.dig];rfl⟩
theorem Tryz.sizeEntryB:(Tryz.prog.info? 74).map (·.size)=some 10:=by kernel_rfl
theorem dJ(b:Pj):∀a∈qv b,a.oneCell'=true:=fun a c=>Gk [b] a (by simpa[Sj]using c)
def LY:List Value:=[.slice none 0 0,.slice none 0 0,.int .u8 0,.int .u8 0,.int .u8 0,.int .u8 0,.int .u8 0,.int .u8 0,.int .u8 0,.int .u8 0]
def Zv(b:World)(e:Nat)(c d:List Value)(a:World):Prop:=Below b.heap.size b a/\aj a b.heap.size 171 c/\aj a e 74 d
theorem Zv.next{g b i:World}{l:Nat}{h j:List Value}{k:Value}{n:List UInt8}(a:Zv g l h j b)(e:rj b (g.heap.size+1) k n)(d:bj (fun f=>k.ownBlock=some f) b i):Zv g l h j i:=
 ⟨a.1.trans (d.below a.1.size (fun f m=>by have:=(e.lt f m).1;omega)),a.2.1.of_block (d.block _ a.2.1.lt (fun c=>xj e a.2.1 (by decide) c)),a.2.2.of_block (d.block _ a.2.2.lt (fun c=>xj e a.2.2 (by decide) c))⟩
theorem Zv.enter{b wr c:World}{g h:List Value}{l:Value}{k:List UInt8}(e:Below b.heap.size b wr)(f:aj wr b.heap.size 171 g)(j:rj wr (b.heap.size+1) l k)(o:aj c wr.heap.size 74 h)
  (n:bj (fun a=>a=wr.heap.size) (wr.alloc (.cells LY.toArray 74)) c):Zv b wr.heap.size g h c/\rj c (b.heap.size+1) l k:=by
 have d:bj (fun a=>a=wr.heap.size) wr c:=bj.trans ((bj.refl _ _).alloc _) n;refine⟨⟨e.trans (d.below e.size (fun a i=>by have:=e.size;omega)),f.of_block (d.block _ f.lt (fun m=>by have:=f.lt;omega)),o⟩,?_⟩;exact ij j d (fun a i m=>by have:=(j.lt a i).2;omega)
theorem Zv.cells{e a:World}{c:Nat}{d i f g:Value}{h:List Value}(b:Zv e c [d,i] (f::g::h) a):a.cell? ⟨e.heap.size,0,none⟩=some d/\a.cell? ⟨c,0,none⟩=some f/\a.cell? ⟨c,1,none⟩=some g:=
 ⟨b.2.1.cell 0 (by simp),b.2.2.cell 0 (by simp),b.2.2.cell 1 (by simp)⟩
theorem Zv.dig{k c:World}{h:Nat}{i:List Value}{f g:Value}{a:List UInt8}(e:Zv k h i (f::g::a.map fj) c):jq c (some ⟨h,2,none⟩) a:=
 jq.mk e.2.2.lt (fun b j=>by
  have:=e.2.2.cell (2+b) (by simp;omega);rw[this];have d:(f::g::a.map fj)[2+b]? =some (fj a[b]):=by rw[Nat.add_comm];simp[j]
  rw[UM (by simp;omega)]at d;exact d)
theorem dG(c:Nat)(s:Option Addr)(d i:Nat)(u:List Pj)(b:List ej)(e:World)(aI:d=u.length)(P:b.length=u.length)(am:u.length<=200)(bd:c<=200)(a0:∀f∈b,Dq f)(a2:Mk e s u)
  (N:∀n (L:n<u.length) (b9:n<b.length),ZV e c u[n] b[n]):
  CP 150 #[.agg #[.int .i64 c,.slice s d i]] e fun q o=>∃j:dj,q=.returned j.val/\rj o e.heap.size j.val (Gj c b)/\Below e.heap.size e o:=by
 have W:rj ((e.alloc (.cells #[.int .i64 c,.slice s d i] 171)).alloc (.cells #[.int .u8 (c:Int),.int .u8 (d:Int)] 5)) (e.heap.size+1) (.slice (some ⟨e.heap.size+1,0,none⟩) 2 2) (Jq c d []):=by
  have:=rj.built (e.alloc (.cells #[.int .i64 c,.slice s d i] 171)) (e.heap.size+1) [bt c,bt d] (by simp) (by simp[maxLen]);simp only[YM,ZM,dN]at this;rw[Uk (by omega),Uk (by omega)]at this;exact this
 have a1:aj ((e.alloc (.cells #[.int .i64 c,.slice s d i] 171)).alloc (.cells #[.int .u8 (c:Int),.int .u8 (d:Int)] 5)) e.heap.size 171 [.int .i64 c,.slice s d i]:=(aj.new e _ _).alloc _;have be:(c:Int)<=200:=by omega
 have bg:(d:Int)<=200:=by omega
 have J:Hd (d=b.length):=by unfold Hd;omega
 have ae:Hd (∀(wr:World),BB e wr->∀a (Y:a<d) (Z:a<b.length),∃g h,∃f:Pj,s=some ⟨g,h,none⟩/\wr.rangeAt g (h+a*10) (qv f)/\ZV e c f b[a]):=fun wr ao a Y Z=>by
  have an:∀f∈u,f.d.length=8:=fun f z=>by
   obtain⟨n,aC,rfl⟩:=PN z;exact(N n aC (by omega)).d8
  obtain⟨g,h,ap,au,av⟩:=Mk.range a2 an a (by omega);refine⟨g,h,u[a]'(by omega),ap,fun a4 j b0=>?_,N a (by omega) Z⟩;rw[ao.cell (p:=⟨g,h+a*10+a4,none⟩) au];exact av a4 j b0
 have T:Hd (∀f∈b,Dq f):=a0;have ba:d<=200:=by omega
 clear aI P am a2 N a0;go_enter Tryz.func150,Tryz.ntmps150;go_wp2
 go_loopw [3,5,17] (fun g _ n wr=>∃(a:Nat) (j:dj),a<=d/\n=.int .i64 a/\g=j.val/\rj wr (e.heap.size+1) j.val (Jq c d (b.take a))/\Below e.heap.size e wr/\aj wr e.heap.size 171 [.int .i64 c,.slice s d i]) (fun _ _ n _=>d - (intOf n).toNat)
 case atStart=>exact⟨0,⟨_,2,2⟩,by omega,by simp,rfl,by simp only[List.take_zero];exact W,by go_grown,a1⟩
 case round=>
  obtain⟨a,j,Y,rfl,rfl,C,A,D⟩:=hrel;have ax:=D.cell 0 (by simp);have aA:=D.cell 1 (by simp);simp only[cN,gN]at ax aA;by_cases aE:a<d
  .have G:a<b.length:=by have:=J.o;omega
   obtain⟨g,h,f,rfl,z,F⟩:=ae.o wr A a aE G;obtain⟨bb,bf⟩:=T.o b[a] (bN G);have ag:Hd (wr.rangeAt g (h+a*10) (qv f)):=z;have I:Hd ((Jq c d (b.take a)).length<=6000):=by
    have:=ox c d (b.take a) (fun f z=>T.o f (TN z));rw[aN]at this;unfold Hd;omega
   have bc:(a:Int)<d:=by omega
   have U:Hd ((Tryz.prog.info? 74).map (·.size)=some (qv f).length):=by unfold Hd;rw[Gx f F.d8];exact Tryz.sizeEntryB
   have af:Hd (aj (wr.alloc (.cells LY.toArray 74)) wr.heap.size 74 LY):=aj.new wr _ _;have ah:Hd (LY.length=(qv f).length):=by unfold Hd;rw[Gx f F.d8];rfl
   have b6:Hd (BB e (wr.alloc (.cells LY.toArray 74))):=A.alloc A.size _;have b8:Hd (aj (wr.alloc (.cells LY.toArray 74)) e.heap.size 171 [.int .i64 c,.slice (some ⟨g,h,none⟩) d i]):=D.alloc _;have b7:Hd (rj (wr.alloc (.cells LY.toArray 74)) (e.heap.size+1) j.val (Jq c d (b.take a))):=C.alloc _;have v:Hd (ZV e c f b[a]):=F;have ac:Hd (rj wr (e.heap.size+1) j.val (Jq c d (b.take a))):=C;clear z W a1 F C;have aR:aj wr e.heap.size 171 [.int .i64 c,.slice (some ⟨g,h,none⟩) d i]:=D;have ad:Hd (aj wr e.heap.size 171 [.int .i64 c,.slice (some ⟨g,h,none⟩) d i]):=D;clear aR;have a6:Hd (∀(k:World) (r:dj) (l:List UInt8),Zv e wr.heap.size [.int .i64 c,.slice (some ⟨g,h,none⟩) d i] (qv f) k->rj k (e.heap.size+1) r.val l->l.length<=10000->
     CP 160 #[r.val,f.k.val] k fun q o=>∃m:dj,q=.returned m.val/\rj o (e.heap.size+1) m.val (l++bt b[a].key.length::b[a].key)/\Zv e wr.heap.size [.int .i64 c,.slice (some ⟨g,h,none⟩) d i] (qv f) o):=fun k r l x B P=>by
    refine(BZ (e.heap.size+1) r f.k l b[a].key k B (v.o.key.below x.1) (fun S R=>by have:=v.o.key.lt S R;omega) x.2.1.lt (by omega) (by omega)).mono ?_;rintro q o ⟨m,M,w,O⟩;exact⟨m,M,w,x.next B O⟩
   have a7:Hd (∀(k:World) (r:dj) (l:List UInt8),c=0->Zv e wr.heap.size [.int .i64 c,.slice (some ⟨g,h,none⟩) d i] (qv f) k->rj k (e.heap.size+1) r.val l->l.length<=10000->
     CP 160 #[r.val,f.v.val] k fun q o=>∃m:dj,q=.returned m.val/\rj o (e.heap.size+1) m.val (l++bt b[a].more.length::b[a].more)/\Zv e wr.heap.size [.int .i64 c,.slice (some ⟨g,h,none⟩) d i] (qv f) o):=fun k r l V x B P=>by
    refine(BZ (e.heap.size+1) r f.v l b[a].more k B ((v.o.val V).below x.1) (fun S R=>by have:=(v.o.val V).lt S R;omega) x.2.1.lt (by omega) (by omega)).mono ?_;rintro q o ⟨m,M,w,O⟩;exact⟨m,M,w,x.next B O⟩
   unfold dj.val;go_wp2_with (first
    |(refine wpList_load_mid (by rfl) 74 (.tmp 19) (by rfl) g (h+a*10) (by rfl) (qv f) _ ag.o Tryz.underlying74 (by rfl) U.o ?_)
    |(refine xv (by rfl) 74 (.tmp 5) (.tmp 20) (by rfl) wr.heap.size (by rfl) (qv f) (by rfl) af.o ah.o U.o (dJ f) ?_;intro a5 aT X b1;obtain⟨a3,aP⟩:=Zv.enter A ad.o ac.o aT X;have bi:a5.cell? ⟨wr.heap.size,0,none⟩=some (.slice f.k.a f.k.n f.k.cap):=(Zv.cells a3).2.1;clear b1 X))
   refine(a6.o a5 j _ a3 aP (by have:=I.o;omega)).mono ?_;rintro q H ⟨m,rfl,w,y⟩;have bk:H.cell? ⟨e.heap.size,0,none⟩=some (.int .i64 c):=(Zv.cells y).1;have bl:H.cell? ⟨wr.heap.size,1,none⟩=some (.slice f.v.a f.v.n f.v.cap):=(Zv.cells y).2.2;unfold dj.val;by_cases t:c=0
   .have aD:((c:Int)==0)=true:=by simp[t]
    have K:Hd (Jq c d (b.take (a+1))=(Jq c d (b.take a)++bt b[a].key.length::b[a].key)++bt b[a].more.length::b[a].more):=by
     unfold Hd;rw[Xw c d b a G];simp[iJ,t]
    have aa:Hd (c=0):=t;clear t;go_wp2_with fail;refine(a7.o H m _ aa.o y w (by have:=I.o;simp;omega)).mono ?_;rintro q b5 ⟨b4,rfl,Q,E⟩;unfold dj.val;go_wp2;refine⟨⟨a+1,b4,by omega,by go_num,rfl,?_,E.1,E.2.1⟩,by simp[intOf];omega⟩;rw[K.o];exact Q
   .have aD:((c:Int)==0)=false:=by simp;omega
    have K:Hd (Jq c d (b.take (a+1))=(Jq c d (b.take a)++bt b[a].key.length::b[a].key)++b[a].more):=by
     unfold Hd;rw[Xw c d b a G];simp[iJ,t]
    have a8:Hd (jq H (some ⟨wr.heap.size,2,none⟩) b[a].more):=by
     have L:=Zv.dig y;rw[v.o.dig t]at L;exact L
    have ab:Hd (8=b[a].more.length):=by unfold Hd;rw[<-v.o.dig t];exact v.o.d8.symm
    clear t;go_wp2_with (at_builtin;refine Hq (by rfl) (.tmp 32) (.tmp 34) (by rfl) (e.heap.size+1) _ (Jq c d (b.take a)++bt b[a].key.length::b[a].key) (by rfl) w (some ⟨wr.heap.size,2,none⟩) 8 8 b[a].more (by rfl) ab.o a8.o (fun al=>by cases al) (by have:=I.o;simp;omega) (by have:=y.2.1.lt;omega) ?_;intro ai b2 ak b5 aO Q bh aB ar;have E:=Zv.next y w aB;clear aO ar);refine⟨⟨a+1,⟨ai,b2,ak⟩,by omega,by go_num,rfl,?_,E.1,E.2.1⟩,by simp[intOf];omega⟩;rw[K.o];exact Q
  .have a9:Hd (Jq c d (b.take a)=Gj c b):=by
    unfold Hd Jq Gj;rw[aaj (by have:=J.o;omega),J.o]
   unfold dj.val;go_wp2;go_ret;refine⟨j,rfl,?_,A⟩;rw[<-a9.o];exact Hj C (fun b3 aS=>by have:=(C.lt b3 aS).1;omega)
end Go.Proofs.YtekegfbjbainhaaGreat
