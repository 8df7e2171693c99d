import Derived.Test.YtekegfbjbainhaaGreatKJoin3
import Derived.Deep.RegionWith
import Derived.Stop.BytesEq
import Derived.Deep.DrawnRows
import Derived.Lib.Bytealg
set_option maxRecDepth 100000
set_option maxHeartbeats 1600000
set_option linter.unusedVariables false
set_option linter.unusedSimpArgs false
namespace Go.Proofs.YtekegfbjbainhaaGreat
open Go.RowKit
section
theorem Tryz.sizePage:(Tryz.prog.info? 80).map (·.size)=some 2:=by kernel_rfl
theorem ZZ(d:dj)(h:List Av)(a:Nat)(c b:dj)(w:List ej)(rest:List (dj×List ej))(j:Nat)(e:World)(q:gQ e j d.val h)(A:h.length=a+1)(F:a<=100)(n:h[a]? =some (c,(b,w)::rest))(l:px e j a (c,(b,w)::rest)):
  CP 85 #[.agg #[.slice d.a d.n d.cap]] e fun z C=>z=.returned (.agg #[.int .i64 a,.slice b.a b.n b.cap])/\Below e.heap.size e C:=by
 obtain⟨t,o⟩:=jj.ofOwn (s:=d) q;obtain⟨g,u⟩:=jj.ofOwn (s:=c) l.1;obtain⟨K,N,m,E,x⟩:=jj.at t (i:=a) (v:=.slice c.a c.n c.cap) (by unfold XF;rw[zN,n];rfl);obtain⟨O,Q,f,I,y⟩:=jj.at g (i:=0) (v:=.int .i64 a) rfl;obtain⟨P,R,r,_,D⟩:=jj.at g (i:=1) (v:=.slice b.a b.n b.cap) rfl;rw[f]at r;cases r;have p:d.n=a+1:=by rw[o];exact A
 have B:(1:Int)<=c.n:=by rw[u];simp;omega
 obtain⟨J,M,L⟩:=d;obtain⟨S,U,T⟩:=c;simp only at m p f B x;subst m;subst p;subst f;have G:(0:Int)<=(a:Int):=abj _;have H:(a:Int)<=100:=by omega
 rw[eaj]at y;clear t g u o q l n;go_enter Tryz.func85,Tryz.ntmps85;go_wp2;exact Cv (k:=2) (cs:=[.int .i64 a,.slice b.a b.n b.cap]) rfl rfl (aj.new_at _ _ _ _ (by simp)) Tryz.underlying80 rfl Tryz.sizePage rfl ⟨rfl,by go_grown⟩
abbrev Bz(w:World)(d:List UInt8):World:=w.alloc (.cells (d.map fj).toArray 36)
abbrev Ax(w:World):World:=w.alloc (.cells zO 36)
abbrev Yk(w:World)(x:Int):World:=w.alloc (.cells #[.int .u8 x] 5)
def z8:List Value:=[.int .u8 0,.int .u8 0,.int .u8 0,.int .u8 0,.int .u8 0,.int .u8 0,.int .u8 0,.int .u8 0]
theorem jJ(a:World):aj (Ax a) a.heap.size 36 z8:=aj.new a 36 z8
theorem FY(b:List UInt8)(a:World)(d:b.length=8):
  CP 121 #[dV b] a fun h F=>h=.returned (dV (Aj (0::b)))/\Below a.heap.size a F:=by
 have m:rj (Yk (Ax (Bz a b)) 0) a.heap.size (.slice (some ⟨a.heap.size+1+1,0,none⟩) 1 1) [0]:=by
  have:=rj.built (Ax (Bz a b)) a.heap.size [0] (by simp;omega) (by simp[maxLen]);simp only[YM]at this;exact this
 have r:jq (Yk (Ax (Bz a b)) 0) (some ⟨a.heap.size,0,none⟩) b:=jq.of_row (((aj.new a 36 _).alloc _).alloc _);have p:aj (Yk (Ax (Bz a b)) 0) (a.heap.size+1) 36 z8:=by
  have:=(jJ (Bz a b)).alloc (.cells #[.int .u8 0] 5);simp only[YM]at this;exact this
 obtain⟨c,e⟩:∃c,c=Aj (0::b):=⟨_,rfl⟩;have n:c.length=8:=by rw[e];rfl
 have s:dV b=.agg (b.map fj).toArray:=rfl;rw[<-e,s];have v:Hd (c=Aj (0::b)):=e;clear e s;go_enter Tryz.func121,Tryz.ntmps121;go_wp2_with (at_builtin;refine Hq (by rfl) (.tmp 5) (.tmp 6) (by rfl) a.heap.size _ [0] (by rfl) m (some ⟨a.heap.size,0,none⟩) 8 8 b (by rfl) d.symm r (fun y=>by cases y) (by simp[d]) (by simp;omega) ?_;intro w J x G H D q g A);refine(tz w _ x (0::b) G (by simp[d]) (by simp[d,maxLen]) q).mono ?_;rintro h t ⟨rfl,f⟩;rw[kx,<-v.o];have l:aj t (a.heap.size+1) 36 z8:=by
  have i:=p.of_block (g.block (a.heap.size+1) (by simp) (by simp[Value.ownBlock]));exact i.below i.lt f
 have u:Hd (BB a t):=by
  have j:=g.below (B:=a.heap.size) (by simp;omega) (fun E o=>by simp[Value.ownBlock]at o;omega);exact(((tO.alloc (by simp) _).alloc (by simp;omega) _).trans j).trans (f.mono (by have:=j.size;simp at this;omega))
 clear g A q D f r m p;go_wp2_with (refine iq (by rfl) (.tmp 2) (.tmp 9) (by rfl) (a.heap.size+1) (by rfl) c n (by rfl) l (by rfl) ?_;intro K z C I);exact uy (k:=2) rfl rfl z n rfl ⟨rfl,u.o.trans (C.below (by have:=l.lt;omega) (fun E o=>by omega))⟩
theorem vy(b c:List UInt8)(a:World)(f:b.length=8)(l:c.length=8):
  CP 123 #[dV b,dV c] a fun m X=>m=.returned (dV (Aj (1::(b++c))))/\Below a.heap.size a X:=by
 have v:rj (Yk (Ax (Bz (Bz a b) c)) 1) a.heap.size (.slice (some ⟨a.heap.size+1+1+1,0,none⟩) 1 1) [1]:=by
  have:=rj.built (Ax (Bz (Bz a b) c)) a.heap.size [1] (by simp;omega) (by simp[maxLen]);simp only[YM]at this;exact this
 have D:jq (Yk (Ax (Bz (Bz a b) c)) 1) (some ⟨a.heap.size,0,none⟩) b:=jq.of_row ((((aj.new a 36 _).alloc _).alloc _).alloc _);have E:jq (Yk (Ax (Bz (Bz a b) c)) 1) (some ⟨a.heap.size+1,0,none⟩) c:=by
  have:=jq.of_row (((aj.new (Bz a b) 36 (c.map fj)).alloc (.cells z8.toArray 36)).alloc (.cells #[.int .u8 1] 5));simp only[YM]at this;exact this
 have A:aj (Yk (Ax (Bz (Bz a b) c)) 1) (a.heap.size+1+1) 36 z8:=by
  have:=(jJ (Bz (Bz a b) c)).alloc (.cells #[.int .u8 1] 5);simp only[YM]at this;exact this
 obtain⟨h,n⟩:∃h,h=Aj (1::(b++c)):=⟨_,rfl⟩;have w:h.length=8:=by rw[n];rfl
 have G:dV b=.agg (b.map fj).toArray:=rfl;have H:dV c=.agg (c.map fj).toArray:=rfl;rw[<-n,G,H];have K:Hd (h=Aj (1::(b++c))):=n;clear n G H;go_enter Tryz.func123,Tryz.ntmps123;go_wp2_with (first
  |(at_builtin;refine Hq (by rfl) (.tmp 7) (.tmp 8) (by rfl) a.heap.size _ [1] (by rfl) v (some ⟨a.heap.size,0,none⟩) 8 8 b (by rfl) f.symm D (fun e=>by cases e) (by simp[f]) (by simp;omega) ?_;intro L V N a1 x z T j u;obtain rfl:V=9:=(by rw[x,f];rfl);have F:=jq.frame E j (fun a3 U=>by cases U;simp[Value.ownBlock];omega);clear x)
  |(at_builtin;refine Hq (by rfl) (.tmp 10) (.tmp 11) (by rfl) a.heap.size _ ([1]++b) (by rfl) z (some ⟨a.heap.size+1,0,none⟩) 8 8 c (by rfl) l.symm F (fun e=>by cases e) (by simp[f,l]) (by have:=j.size;simp at this;omega) ?_;intro M W O Y y S C p Q;obtain rfl:W=17:=(by rw[y,l];simp[f]);clear y))
 refine(tz M _ O (1::(b++c)) Y (by simp[f,l]) (by simp[f,l,maxLen]) (by simpa using C)).mono ?_;rintro m I ⟨rfl,o⟩;rw[kx,<-K.o];have q:∀g,(Value.slice L 9 N).ownBlock=some g->a.heap.size+1+1+1<=g:=fun g d=>by
  rcases u with e|e
  .rw[e]at d;simp[Value.ownBlock]at d;omega
  .rw[e]at d;simp at d;omega
 have t:aj I (a.heap.size+1+1) 36 z8:=by
  have r:=A.of_block (j.block (a.heap.size+1+1) (by simp) (by simp[Value.ownBlock]));have i:=r.of_block (p.block (a.heap.size+1+1) r.lt (fun m=>by have:=q _ m;omega));exact i.below i.lt o
 have J:Hd (BB a I):=by
  have i:=j.below (B:=a.heap.size) (by simp;omega) (fun g d=>by simp[Value.ownBlock]at d;omega);have Z:=i.size;simp only[YM]at Z;have s:=p.below (B:=a.heap.size) (by omega) (fun g d=>by have:=q _ d;omega);have a4:=s.size;exact(((((tO.alloc (by simp) _).alloc (by simp;omega) _).alloc (by simp;omega) _).trans i).trans s).trans (o.mono (by omega))
 clear j u T z o D v A E F p Q C S q;go_wp2_with (refine iq (by rfl) (.tmp 4) (.tmp 14) (by rfl) (a.heap.size+1+1) (by rfl) h w (by rfl) t (by rfl) ?_;intro a2 P R a0);exact uy (k:=4) rfl rfl P w rfl ⟨rfl,J.o.trans (R.below (by have:=t.lt;omega) (fun g d=>by omega))⟩
def Zk:Nat->Nat->Nat->Nat
 |0,a,_=>a
 |c+1,a,b=>if a<b - a then Zk c (2*a) b else a
def gj(a:Nat):Nat:=Zk 64 1 a
theorem My(b:Nat)(j:World)(q:b<=9223372036854775807):
  CP 122 #[.int .i64 b] j fun m p=>m=.returned (.int .i64 (gj b:Int))/\p=j:=by
 go_enter Tryz.func122,Tryz.ntmps122;go_wp2
 go_loop [3] (fun g=>∃(a e:Nat),1<=a/\a<=9223372036854775807/\g=.int .i64 a/\Hd (Zk e a b=gj b/\a*2^e=2^64)) (fun g=>b - (intOf g).toNat)
 case atStart=>exact⟨1,64,by omega,by omega,rfl,⟨rfl,by omega⟩⟩
 case round=>
  obtain⟨a,e,r,s,rfl,h⟩:=hrel;by_cases i:a<b - a
  .have o:(a:Int)<(b:Int) - (a:Int):=by omega
   have k:Hd (∃c,Zk c (2*a) b=gj b/\2*a*2^c=2^64):=by
    obtain⟨d,f⟩:=h.o;cases e with
    |zero=>simp at f;omega
    |succ c=>
     refine⟨c,?_,?_⟩
     .rw[Zk,if_pos i]at d;exact d
     .rw[<-f,Gaj];rw[Nat.mul_comm 2 a,Nat.mul_assoc,Nat.mul_comm 2]
   go_wp2
   go_round
   case rel=>
    obtain⟨c,n⟩:=k.o;exact⟨2*a,c,by omega,by omega,by go_num,n⟩
   case measure=>simp[intOf];omega
  .have o:¬((a:Int)<(b:Int) - (a:Int)):=by omega
   have l:Hd (gj b=a):=by
    obtain⟨d,f⟩:=h.o;cases e with
    |zero=>exact d.symm
    |succ c=>rw[Zk,if_neg i]at d;exact d.symm
   go_wp2;go_ret;exact⟨by rw[l.o];rfl,rfl⟩
def Uj:Nat->List (List UInt8)->List UInt8
 |0,_=>[]
 |_+1,[]=>Aj []
 |_+1,[c]=>Aj (0::c)
 |b+1,a=>Aj (1::(Uj b (a.take (gj a.length))++Uj b (a.drop (gj a.length))))
def qj(a:List (List UInt8)):List Value:=a.flatMap (·.map fj)
theorem Wj:∀(a:Nat) (b:List (List UInt8)),(Uj (a+1) b).length=8
 |_,[]=>rfl
 |_,[_]=>rfl
 |_,_::_::_=>rfl
theorem mq:∀(a:List (List UInt8)),(∀b∈a,b.length=8)->(qj a).length=a.length*8
 |[],_=>rfl
 |b::a,c=>by
  have:=mq a (fun e d=>c e (by simp[d]));simp only[qj,JN,XM,FN]at this⊢;rw[this,c b (by simp),uN];omega
theorem CX(a:List (List UInt8))(e:∀c∈a,c.length=8)(b:Nat)(g:b<=a.length):(qj a).take (b*8)=qj (a.take b):=by
 have d:qj a=qj (a.take b)++qj (a.drop b):=by
  unfold qj;rw[<-KN,Naj]
 rw[d];have h:(qj (a.take b)).length=b*8:=by
  rw[mq _ (fun c f=>e c (TN f)),aN,LN g]
 rw[<-h,List.take_left]
theorem iQ(a:List (List UInt8))(e:∀c∈a,c.length=8)(b:Nat)(g:b<=a.length):(qj a).drop (b*8)=qj (a.drop b):=by
 have d:qj a=qj (a.take b)++qj (a.drop b):=by
  unfold qj;rw[<-KN,Naj]
 rw[d];have h:(qj (a.take b)).length=b*8:=by
  rw[mq _ (fun c f=>e c (TN f)),aN,LN g]
 rw[<-h,List.drop_left]
theorem GY:∀(c b a:Nat),1<=b->b<a->1<=Zk c b a/\Zk c b a<a
 |0,b,a,d,e=>⟨d,e⟩
 |c+1,b,a,d,e=>by
  unfold Zk
  split
  .exact GY c (2*b) a (by omega) (by omega)
  .exact⟨d,e⟩
theorem Rq(a:Nat)(b:2<=a):1<=gj a/\gj a<a:=GY 64 1 a (by omega) (by omega)
end
section
attribute [local go_sem↓] Go.wp_at_zero Go.wp_at_succ
def dv(b:World)(c:Nat)(a:World):Prop:=Below b.heap.size b a/\aj a c 36 z8
theorem dv.start(a:World):dv a a.heap.size (Ax a):=⟨tO,jJ a⟩
theorem dv.drew{d a:World}{b:Nat}(c:dv d b a):dv d b a.drew:=⟨c.1.drew,c.2⟩
theorem dv.next{f b c:World}{d:Nat}(a:dv f d b)(e:Below b.heap.size b c):dv f d c:=⟨a.1.trans (e.mono a.1.size),a.2.below a.2.lt e⟩
theorem jj.sub{h:World}{c e b n:Nat}{f d:List Value}(i:jj h (some ⟨c,e,none⟩) f)(p:∀a (g:a<d.length),f[b+a]? =some d[a]):jj h (some ⟨c,e+b,none⟩) d:=fun a g=>by
 obtain⟨j,k⟩:=kN.1 (p a g);obtain⟨q,r,l,m,o⟩:=i (b+a) j;cases l;exact⟨c,e+b,rfl,m,by rw[paj,o,k]⟩
def tq(d:World)(b:Option Addr)(a:List (List UInt8)):Prop:=jj d b (qj a)/\∀c∈a,c.length=8
theorem tq.take{i:World}{e:Option Addr}{a:List (List UInt8)}(d:tq i e a)(b:Nat)(p:b<=a.length):tq i e (a.take b):=by
 refine⟨fun c g=>?_,fun k o=>d.2 k (TN o)⟩;have f:=CX a d.2 b p;have h:c<((qj a).take (b*8)).length:=by rw[f];exact g
 obtain⟨j,q,l,m,n⟩:=d.1 c (by rw[aN]at h;omega);refine⟨j,q,l,m,?_⟩;rw[n]
 congr 1
 have:(qj (a.take b))[c]? =((qj a).take (b*8))[c]? :=by rw[f]
 rw[UM g,UM h,List.getElem_take]at this;exact(lN this).symm
theorem tq.drop{f:World}{d e:Nat}{b:List (List UInt8)}(c:tq f (some ⟨d,e,none⟩) b)(a:Nat)(k:a<=b.length):tq f (some ⟨d,e+a*8,none⟩) (b.drop a):=by
 refine⟨jj.sub (n:=0) c.1 (fun l j=>?_),fun g i=>c.2 g (laj i)⟩;have h:=iQ b c.2 a k;rw[<-oaj,h];exact UM j
theorem tq.below{w w':World}{a:Option Addr}{c:List (List UInt8)}(b:tq w a c)(d:Below w.heap.size w w'):tq w' a c:=⟨b.1.below_all d,b.2⟩
theorem Kk:∀(h:Nat) (c:List (List UInt8)) (x:Option Addr) (f:Nat) (a:World),c.length<h->c.length<=f->f<=9223372036854775807->tq a x c->
  CP 87 #[.slice x c.length f] a fun l u=>l=.returned (dV (Uj h c))/\Below a.heap.size a u
 |0,c,x,f,a,E,_,_,_=>absurd E (wN _)
 |h+1,[],x,f,a,E,H,I,m=>by
  have B:=dv.start a;obtain⟨g,j⟩:∃g,g=Uj (h+1) []:=⟨_,rfl⟩;have q:g.length=8:=by rw[j];rfl
  rw[<-j];have z:Hd (g=Aj []):=j;clear j;go_enter Tryz.func87,Tryz.ntmps87;go_wp2_with fail;refine(tz none 0 0 [] _ rfl (by simp) (jq.nil _ _)).mono ?_;rintro l al ⟨rfl,G⟩;rw[kx,<-z.o];have s:=B.next G;go_wp2_with (refine iq (by rfl) (.tmp 2) (.tmp 8) (by rfl) a.heap.size (by rfl) g q (by rfl) s.2 (by rfl) ?_;intro am F L ag);exact uy (k:=2) rfl rfl F q rfl ⟨rfl,s.1.trans (L.below (by have:=s.2.lt;omega) (fun b ac=>by omega))⟩
 |h+1,[r],x,f,a,E,H,I,m=>by
  have B:=dv.start a;have J:r.length=8:=m.2 r (by simp);obtain⟨o,p,rfl,a6,_⟩:=m.1 0 (by simp[qj,J]);have af:(Ax a).rangeAt o p (r.map fj):=fun ah bb M=>by
   obtain⟨ab,M⟩:=kN.1 M;obtain⟨an,ba,a5,D,a8⟩:=m.1 ah (by simpa[qj]using ab);cases a5;rw[World.cell?_alloc_lt _ _ _ (by exact D),a8];simp only[qj,JN,List.flatMap_nil,XN];rw[M]
  have b0:(1:Int)<=f:=by simp at H;omega
  obtain⟨g,j⟩:∃g,g=Uj (h+1) [r]:=⟨_,rfl⟩;have q:g.length=8:=by rw[j];rfl
  rw[<-j];have z:Hd (g=Aj (0::r)):=j;clear j;go_enter Tryz.func87,Tryz.ntmps87;go_wp2_with (refine wpList_load_mid (by rfl) 36 (.tmp 12) (by rfl) o p (by rfl) (r.map fj) _ af Tryz.underlying36 (by rfl) (by simpa[J]using Tryz.infoDig) ?_);refine(FY r _ J).mono ?_;rintro l al ⟨rfl,G⟩;rw[<-z.o];have s:=B.next G;go_wp2_with (refine iq (by rfl) (.tmp 2) (.tmp 14) (by rfl) a.heap.size (by rfl) g q (by rfl) s.2 (by rfl) ?_;intro am F L ag);exact uy (k:=2) rfl rfl F q rfl ⟨rfl,s.1.trans (L.below (by have:=s.2.lt;omega) (fun b ac=>by omega))⟩
 |h+1,v::w::t,x,f,a,E,H,I,m=>by
  have B:=dv.start a;have ae:2<=(v::w::t).length:=by simp
  have aa:=Rq _ ae;obtain⟨g,j⟩:∃g,g=Uj (h+1) (v::w::t):=⟨_,rfl⟩;have q:g.length=8:=by rw[j];rfl
  rw[<-j];have z:Hd (g=Aj (1::(Uj h ((v::w::t).take (gj (v::w::t).length))++Uj h ((v::w::t).drop (gj (v::w::t).length))))):=j;clear j;generalize (v::w::t)=c at*;obtain⟨o,p,rfl,a6,a9⟩:=m.1 0 (by rw[mq _ m.2];omega);clear a9;have X:=My c.length;have a0:Hd (∀a:World,c.length<=9223372036854775807->_):=X;clear X;generalize gj c.length=b at*;obtain⟨b3,b4⟩:=aa;have V:(c.take b).length=b:=by rw[aN];omega
  have W:(c.drop b).length=c.length - b:=by rw[oN]
  have Y:Hd (∀n,dv a a.heap.size n->CP 87 #[.slice (some ⟨o,p,none⟩) b f] n fun l u=>l=.returned (dV (Uj h (c.take b)))/\dv a a.heap.size u):=fun n C=>by
   have A:=Kk h (c.take b) (some ⟨o,p,none⟩) f n (by omega) (by omega) I ((m.below C.1).take b (by omega));rw[V]at A;exact A.mono fun l u ⟨K,D⟩=>⟨K,C.next D⟩
  have Z:Hd (∀n,dv a a.heap.size n->CP 87 #[.slice (some ⟨o,p+b*8,none⟩) (c.length - b) (f - b)] n fun l u=>l=.returned (dV (Uj h (c.drop b)))/\dv a a.heap.size u):=fun n C=>by
   have A:=Kk h (c.drop b) (some ⟨o,p+b*8,none⟩) (f - b) n (by omega) (by omega) (by omega) ((m.below C.1).drop b (by omega));rw[W]at A;exact A.mono fun l u ⟨K,D⟩=>⟨K,C.next D⟩
  obtain⟨y,rfl⟩:∃y,h=y+1:=⟨h - 1,by omega⟩;have a2:(Uj (y+1) (c.take b)).length=8:=Wj _ _;have a3:(Uj (y+1) (c.drop b)).length=8:=Wj _ _;generalize Uj (y+1) (c.take b)=ai at*;generalize Uj (y+1) (c.drop b)=ak at*;obtain⟨N,O,P,Q,R,S,T,U,rfl⟩:=uj g q;have b1:(c.length:Int)<=f:=by omega
  have b2:(f:Int)<=9223372036854775807:=by omega
  have b5:(1:Int)<=b:=by omega
  have b6:(b:Int)<c.length:=by omega
  have ad:¬(c.length:Int)=0:=by omega
  have b8:((c.length:Int)==0)=false:=by simpa using ad
  have b9:((c.length:Int)==1)=false:=by simp;omega
  have b7:¬f=b:=by omega
  clear m V W q;go_enter Tryz.func87,Tryz.ntmps87;go_wp2_with fail;refine(a0.o _ (by omega)).mono ?_;rintro l bc ⟨rfl,rfl⟩;have a1:Hd (dV [N,O,P,Q,R,S,T,U]=.agg (cO N O P Q R S T U)):=rfl;go_wp2
  go_region_with (first
   |(go_at_call_of 87 (Value.slice (some ⟨o,p,none⟩) b f);refine(Y.o _ (by exact B.drew)).mono ?_;rintro l bd ⟨rfl,aT⟩)
   |(go_at_call_of 87 (Value.slice (some ⟨o,p+b*8,none⟩) (c.length - b) (f - b));refine(Z.o _ (by assumption)).mono ?_;rintro l be ⟨rfl,a4⟩)
   |(go_at_call 123;refine(vy ai ak _ a2 a3).mono ?_;rintro l i ⟨rfl,a7⟩;rw[<-z.o,a1.o];have e:=dv.next a4 a7;have ao:i.cell? ⟨a.heap.size,0,none⟩=some (.int .u8 0):=e.2.cell 0 (by decide);have aC:i.frozen? ⟨a.heap.size,0,none⟩=false:=e.2.frozen 0;have ap:i.cell? ⟨a.heap.size,1,none⟩=some (.int .u8 0):=e.2.cell 1 (by decide);have aD:i.frozen? ⟨a.heap.size,1,none⟩=false:=e.2.frozen 1;have ar:i.cell? ⟨a.heap.size,2,none⟩=some (.int .u8 0):=e.2.cell 2 (by decide);have aE:i.frozen? ⟨a.heap.size,2,none⟩=false:=e.2.frozen 2;have au:i.cell? ⟨a.heap.size,3,none⟩=some (.int .u8 0):=e.2.cell 3 (by decide);have aI:i.frozen? ⟨a.heap.size,3,none⟩=false:=e.2.frozen 3;have av:i.cell? ⟨a.heap.size,4,none⟩=some (.int .u8 0):=e.2.cell 4 (by decide);have aO:i.frozen? ⟨a.heap.size,4,none⟩=false:=e.2.frozen 4;have ax:i.cell? ⟨a.heap.size,5,none⟩=some (.int .u8 0):=e.2.cell 5 (by decide);have aP:i.frozen? ⟨a.heap.size,5,none⟩=false:=e.2.frozen 5;have aA:i.cell? ⟨a.heap.size,6,none⟩=some (.int .u8 0):=e.2.cell 6 (by decide);have aR:i.frozen? ⟨a.heap.size,6,none⟩=false:=e.2.frozen 6;have aB:i.cell? ⟨a.heap.size,7,none⟩=some (.int .u8 0):=e.2.cell 7 (by decide);have aS:i.frozen? ⟨a.heap.size,7,none⟩=false:=e.2.frozen 7))
  all_goals
   go_wp2;exact uy (k:=2) (d:=[N,O,P,Q,R,S,T,U]) rfl rfl (by exact((((((((e.2.set 0 _).set 1 _).set 2 _).set 3 _).set 4 _).set 5 _).set 6 _).set 7 _)) rfl rfl ⟨rfl,((((((((e.1.setCell (by exact TM _) _).setCell (by exact TM _) _).setCell (by exact TM _) _).setCell (by exact TM _) _).setCell (by exact TM _) _).setCell (by exact TM _) _).setCell (by exact TM _) _).setCell (by exact TM _) _)⟩
end
section
theorem cq{p:Program}{z:Array Oper}{g:World}{f:Oper}{b:Act}{w:Act->World->Prop}{B:Exit->Act->World->Prop}{A:Prop}(J:f.guard=none)(s t:Operand)(o:TypeId)
  (N:f.op=.call {callee:=.builtin .append,args:=#[s,t],argTypes:=#[o,o]})
  (m:Nat)(h:TypeId)(v:Value)(a bytes:Nat)(R:p.underlying o=some (.slice h))(K:(p.info? h).map (fun r=>(r.zero,r.size,r.bytes))=some (some v,a,bytes))(U:v.cells.size=a)(Q:0<a)
  (k:Value)(i:Nat)(u:List Value)(P:b.eval s=k)(O:g.ownsRow m h a k i u)
  (q:Addr)(e x:Nat)(j:List Value)(T:b.eval t=.slice (some q) e x)(L:j.length=e*a)(M:jj g (some q) j)(D:∀W∈j,W.oneCell'=true)
  (E:i+e<=maxLen)(H:(i+e)*bytes<=140737488355328)(G:m<=g.heap.size)
  (C:∀c n d l,l.ownsRow m h a (.slice c n d) (i+e) (u++j)->bj (fun V=>k.ownBlock=some V) g l->((Value.slice c n d).ownBlock=k.ownBlock\/(Value.slice c n d).ownBlock=some g.heap.size)->w (b.put f.dst (.slice c n d)) l):
  if Region.wanted f (yielded z b.tmps)=true then Oper.wp p f b g w B else A:=by
 have S:Region.wanted f (yielded z b.tmps)=true:=by simp[Region.wanted,J]
 rw[if_pos S];refine dQ s t o N m h v a bytes R K U Q k i u P O q e x j T L M D E H G ?_;intro X l y I F;obtain⟨c,d,rfl,_⟩:=Nj y;exact C c _ d l y I F
theorem Tryz.infoItems:(Tryz.prog.info? 78).map (fun a=>(a.zero,a.size,a.bytes))=some (some (.slice none 0 0),1,24):=by kernel_rfl
theorem Tryz.infoDigs:(Tryz.prog.info? 36).map (fun a=>(a.zero,a.size,a.bytes))=some (some (.agg zO),8,8):=by kernel_rfl
theorem Tryz.sizeCommit:(Tryz.prog.info? 103).map (·.size)=some 18:=by kernel_rfl
structure Yj(W:World)(sb base:Nat)(now past roots:dj)(nowL:List ej)(pastL:List (dj×List ej))(rootsL:List (List UInt8)):Prop where
 row:Vv W sb now.val past.val roots.val
 hnow:jz W base now.val nowL
 hpast:W.ownsRow base 78 1 past.val pastL.length (pastL.map (fun q=>q.1.val))
 hpok:∀q∈pastL,jz W base q.1.val q.2
 hroots:W.ownsRow base 36 8 roots.val rootsL.length (qj rootsL)
 h8:∀d∈rootsL,d.length=8
theorem Yj.below{c d:World}{l e:Nat}{f h j:dj}{g:List ej}{i:List (dj×List ej)}{k:List (List UInt8)}(a:Yj c l e f h j g i k)(b:Below c.heap.size c d):Yj d l e f h j g i k:=
 ⟨aj.below a.row (aj.lt a.row) b,lj a.hnow b,lj a.hpast b,fun n m=>lj (a.hpok n m) b,lj a.hroots b,a.h8⟩
theorem Yj.drew{b:World}{j c:Nat}{d f h:dj}{e:List ej}{g:List (dj×List ej)}{i:List (List UInt8)}(a:Yj b j c d f h e g i):Yj b.drew j c d f h e g i:=
 ⟨a.row,a.hnow,a.hpast,a.hpok,a.hroots,a.h8⟩
theorem Lq{h:Func}{g:Ending->World->Prop}{a:Act}{e:World}{k k2 c b:Nat}{cs:List Value}{d:Value}{f:TypeDesc}(r:h.results=#[ResultVar.cell k b,ResultVar.tmp k2])(l:a.tmps.getD k undef=.pointer (some ⟨c,0,none⟩))(n:a.tmps.getD k2 undef=d)
  (j:aj e c b cs)(u:Tryz.prog.underlying b=some f)(p:f.isRow=true)(s:(Tryz.prog.info? b).map (·.size)=some cs.length)(q:a.defers=[])(i:g (.returned (.tuple #[.agg cs.toArray,d])) e):bodyPost Tryz.prog h g .ret a e:=by
 refine bodyPost_ret (v:=.tuple #[.agg cs.toArray,d]) ?_ q i;have t:=run_loadVar_mid (P:=Tryz.prog) e c 0 b cs f j.range u p s;have m:a.tmps[k]?.getD undef=.pointer (some ⟨c,0,none⟩):=by rw[<-l];simp[WN]
 have o:a.tmps[k2]?.getD undef=d:=by rw[<-n];simp[WN]
 unfold results;rw[r];simp[m,o,t,asAddr]
def Fx(a:Nat)(b:List UInt8)(c:Nat)(d:List UInt8):List Value:=[.int .i64 a]++b.map fj++[.int .i64 c]++d.map fj
def Mq:List Value:=[.int .i64 0,.int .u8 0,.int .u8 0,.int .u8 0,.int .u8 0,.int .u8 0,.int .u8 0,.int .u8 0,.int .u8 0,.int .i64 0,.int .u8 0,.int .u8 0,.int .u8 0,.int .u8 0,.int .u8 0,.int .u8 0,.int .u8 0,.int .u8 0]
theorem wV(d f:Nat)(l n a:dj)(m:List ej)(o:List (dj×List ej))(e:List (List UInt8))(b:World)(c:Yj b d f l n a m o e)(i:e.length=40):
  CP 45 #[.pointer (some ⟨d,0,none⟩)] b fun h p=>h=.returned (.tuple #[.agg Mq.toArray,.int .i64 2])/\Below b.heap.size b p:=by
 have q:=aj.lt c.row;have g:b.cell? ⟨d,2,none⟩=some (.slice a.a a.n a.cap):=aj.cell c.row 2 (by simp);have j:a.n=40:=by rw[<-i];exact(jj.ofOwn c.hroots).2
 rw[j]at g;clear c;go_enter Tryz.func45,Tryz.ntmps45;go_wp2;exact Lq (k:=2) (k2:=3) (cs:=Mq) rfl rfl rfl (aj.new_at _ _ _ _ (by simp)) Tryz.underlying103 rfl Tryz.sizeCommit rfl ⟨rfl,by go_grown⟩
end
section
attribute [local go_sem↓] Go.wp_at_zero Go.wp_at_succ
theorem KJ(b:Nat)(a:List ej):1<=(nj b a).length:=(Ly b a []).1
theorem XV:∀(g c:Nat) (b:List ej),(∀f∈b,Dq f)->b.length<=200->∀e∈Eq g c b,e≠[]/\∀d∈e,d.length<=200/\∀f∈d,Dq f
 |0,_,_,_,_,e,a=>by cases a
 |g+1,c,b,i,m,e,a=>by
  have j:nj c b≠[]/\∀d∈nj c b,d.length<=200/\∀f∈d,Dq f:=
   ⟨fun k=>by have:=KJ c b;rw[k]at this;simp at this,fun d a=>⟨by have:=Wk c b [] d a;simp at this;omega,RQ i d a⟩⟩
  unfold Eq at a
  split at a
  .simp only[eN]at a;subst a;exact j
  .rename_i l
   rcases IN.1 a with rfl|a
   .exact j
   .refine XV g (c+1) _ (YZ c 0 _ (RQ i)) ?_ e a;rw[Xk];by_cases h:b=[]
    .subst h;exact absurd rfl l
    .have:=Kx c b [] h;unfold nj;omega
theorem oy:∀(a b:Nat) (c:List ej),1<=a->1<=(Eq a b c).length/\(Eq a b c).length<=a
 |0,_,_,e=>absurd e (by omega)
 |a+1,b,c,_=>by
  unfold Eq
  split
  .simp
  .cases a with
   |zero=>simp[Eq]
   |succ d=>have:=oy (d+1) (b+1) (bq b 0 (nj b c)) (by omega);simp;omega
def dq(a:List ej):Nat:=(Rj a).length - 1
def Wz(a:List ej):List ej:=((Rj a)[(Rj a).length - 1]?.getD []).headD []
def Sz(a:List ej):List UInt8:=Aj (Gj (dq a) (Wz a))
theorem TQ{b:List Av}{a:List ej}(m:pz b=Rj a)(q:∀d∈a,Dq d)(p:a.length<=200):
  ∃e h g c rest,b.length=e+1/\e<=6/\b[e]? =some (h,(g,c)::rest)/\dq a=e/\Wz a=c/\c.length<=200/\∀d∈c,Dq d:=by
 have l:(Rj a).length=b.length:=by rw[<-m];simp[pz]
 obtain⟨i,j⟩:=oy 7 0 a (by omega);have i:1<=(Rj a).length:=i;have j:(Rj a).length<=7:=j;obtain⟨⟨h,o⟩,n⟩:∃d,b[b.length - 1]? =some d:=⟨_,UM (by omega)⟩;have k:(Rj a)[b.length - 1]? =some (o.map (·.2)):=by
  rw[<-m];unfold pz;rw[zN,n];rfl
 have f:=XV 7 0 a q p _ (mN k);cases o with
 |nil=>exact absurd rfl f.1
 |cons d rest=>
  obtain⟨g,c⟩:=d;refine⟨b.length - 1,h,g,c,rest,by omega,by omega,n,?_,?_,(f.2 c (by simp)).1,(f.2 c (by simp)).2⟩
  .unfold dq;rw[l]
  .unfold Wz;rw[l,k];rfl
theorem Yj.pushPast{k e:World}{d l:Nat}{h s u past':dj}{r:List ej}{j:List (dj×List ej)}{D:List (List UInt8)}(a:Yj k d l h s u r j D)
  (A:e.ownsRow l 78 1 past'.val (j.length+1) (j.map (fun t=>t.1.val)++[h.val]))(y:bj (fun c=>s.val.ownBlock=some c) k e):
  Yj (e.setCell ⟨d,1,none⟩ past'.val) d l h past' u r (j++[(h,r)]) D:=by
 have o:Vv e d h.val s.val u.val:=aj.of_block a.row (y.block _ (aj.lt a.row) (fun b=>xj a.hpast a.row (by decide) b));have z:bj (fun c=>c=d) e (e.setCell ⟨d,1,none⟩ past'.val):=(bj.refl (fun c=>c=d) _).setCell (p:=⟨d,1,none⟩) rfl _;have i:∀{m b v q:Nat} {w:Value} {x:List Value},k.ownsRow m b v w q x->b≠78->b≠91->(e.setCell ⟨d,1,none⟩ past'.val).ownsRow m b v w q x:=fun{m b v q w x} B E F=>by
  have C:=ij B y (fun c g n=>Dv B a.hpast E c g n);exact ij C z (fun c g n=>xj C o F (by rw[g,n]))
 refine⟨by simpa[Vv]using aj.set o 1 past'.val,i a.hnow (by decide) (by decide),?_,?_,i a.hroots (by decide) (by decide),a.h8⟩
 .rw[XM,rN];exact ij A z (fun c g b=>xj A o (by decide) (by rw[g,b]))
 .intro t f;rcases fN.1 f with f|f
  .exact i (a.hpok t f) (by decide) (by decide)
  .simp only[eN]at f;subst f;exact i a.hnow (by decide) (by decide)
theorem Yj.pushRoot{j g:World}{f k:Nat}{r s t roots':dj}{B:List ej}{C:List (dj×List ej)}{h:List (List UInt8)}{d:List UInt8}(b:Yj j f k r s t B C h)(F:d.length=8)
  (z:g.ownsRow k 36 8 roots'.val (h.length+1) (qj h++d.map fj))(x:bj (fun e=>t.val.ownBlock=some e) j g):
  Yj (g.setCell ⟨f,2,none⟩ roots'.val) f k r s roots' B C (h++[d]):=by
 have n:Vv g f r.val s.val t.val:=aj.of_block b.row (x.block _ (aj.lt b.row) (fun a=>xj b.hroots b.row (by decide) a));have y:bj (fun e=>e=f) g (g.setCell ⟨f,2,none⟩ roots'.val):=(bj.refl (fun e=>e=f) _).setCell (p:=⟨f,2,none⟩) rfl _;have o:∀{l a u q:Nat} {v:Value} {w:List Value},j.ownsRow l a u v q w->a≠36->a≠91->(g.setCell ⟨f,2,none⟩ roots'.val).ownsRow l a u v q w:=fun{l a u q v w} c D E=>by
  have A:=ij c x (fun e i m=>Dv c b.hroots D e i m);exact ij A y (fun e i m=>xj A n E (by rw[i,m]))
 refine⟨by simpa[Vv]using aj.set n 2 roots'.val,o b.hnow (by decide) (by decide),o b.hpast (by decide) (by decide),fun H G=>o (b.hpok H G) (by decide) (by decide),?_,?_⟩
 .have a:qj (h++[d])=qj h++d.map fj:=by simp[qj]
  rw[XM,a];exact ij z y (fun e i a=>xj z n (by decide) (by rw[i,a]))
 .intro I c;rcases fN.1 c with c|c
  .exact b.h8 I c
  .simp only[eN]at c;subst c;exact F
end
section
structure BS(w:World)(s:dj)(l:List UInt8):Prop where
 sl:jq w s.a l
 n:s.n=l.length
 nil:s.a=none->s.cap=0
 lt:∀x,s.a=some x->x.block<w.heap.size
theorem BS.frame{f g:World}{S:Nat->Prop}{c:dj}{e:List UInt8}(a:BS f c e)(d:bj S f g)(h:∀b,c.a=some b->¬S b.block):BS g c e:=⟨a.sl.frame d h,a.n,a.nil,fun b i=>qN (a.lt b i) d.size⟩
theorem BS.below{w w':World}{d:dj}{c:List UInt8}(a:BS w d c)(b:Below w.heap.size w w'):BS w' d c:=⟨a.sl.below b (TM _),a.n,a.nil,fun f e=>qN (a.lt f e) b.size⟩
theorem Mv(f:Option Addr)(a g:Nat)(e:World)(j:a<=maxLen):
  CP 27 #[.slice f a g] e fun h k=>h=.returned (.bool (decide (1<=a)&&decide (a<=12)))/\k=e:=by
 unfold maxLen at j;by_cases b:1<=a
 .by_cases d:a<=12
  .have c:(1:Int)<=a:=by omega
   have i:(a:Int)<=12:=by omega
   go_enter Tryz.func27,Tryz.ntmps27;go_wp2;go_ret;exact⟨by simp[b,d],rfl⟩
  .have c:(1:Int)<=a:=by omega
   have i:¬(a:Int)<=12:=by omega
   go_enter Tryz.func27,Tryz.ntmps27;go_wp2;go_ret;exact⟨by simp[b,d],rfl⟩
 .have c:¬(1:Int)<=a:=by omega
  go_enter Tryz.func27,Tryz.ntmps27;go_wp2;go_ret;exact⟨by simp[b],rfl⟩
theorem Cw(d:Option Addr)(a e:Nat)(c:World)(h:a<=maxLen):
  CP 78 #[.slice d a e] c fun f i=>f=.returned (.bool (decide (a<=12)))/\i=c:=by
 unfold maxLen at h;by_cases b:a<=12
 .have g:(a:Int)<=12:=by omega
  go_enter Tryz.func78,Tryz.ntmps78;go_wp2;go_ret;exact⟨by simp[b],rfl⟩
 .have g:¬(a:Int)<=12:=by omega
  go_enter Tryz.func78,Tryz.ntmps78;go_wp2;go_ret;exact⟨by simp[b],rfl⟩
theorem wQ{P:Program}{w:World}(c:Nat):∀(d:List UInt8) (a:Nat) (e:ByteArray),(∀b (f:b<d.length),w.cell? ⟨c,a+b,none⟩=some (.int .u8 (d[b].toNat:Int)))->
  (Extern.Bytes.loadBytes ⟨c,a,none⟩ d.length e).run P w=.ok ⟨e.data++d.toArray⟩ w
 |[],a,e,f=>by simp[Extern.Bytes.loadBytes]
 |g::d,a,e,f=>by
  have h:=f 0 (by simp);have m:=wQ (P:=P) (w:=w) c d (a+1) (e.push g) (fun b j=>by
   have:=f (b+1) (by simpa using j);rw[show a+1+b=a+(b+1)by omega];simpa using this)
  simp only[eaj,cN]at h;have l:((g.toNat:Int)).toNat.toUInt8=g:=by simp
  have i:(Addr.add ⟨c,a,none⟩ 1)=⟨c,a+1,none⟩:=rfl;have k:(Go.load ⟨c,a,none⟩).run P w=.ok (.int .u8 g.toNat) w:=by
   simp[h]
  simp only[uN,Extern.Bytes.loadBytes,Sem.run_bind,k,Result.andThen,l,i,m]
  congr 2
  simp[ByteArray.push]
theorem yZ{k:Program}{e:World}{d:dj}{b:List UInt8}(m:BS e d b):(Extern.Bytes.bytesOf d.val).run k e=.ok ⟨b.toArray⟩ e:=by
 obtain⟨l,u,t⟩:=d;obtain⟨a,g,q,_⟩:=m;simp only at a g q;subst g;cases l with
 |none=>
  cases b with
  |nil=>simp[dj.val,Extern.Bytes.bytesOf];rfl
  |cons j i=>obtain⟨f,h,c,_⟩:=a 0 (by simp);cases c
 |some w=>
  simp only[dj.val,Extern.Bytes.bytesOf];cases b with
  |nil=>simp[Extern.Bytes.loadBytes];rfl
  |cons j i=>
   obtain⟨f,h,c,_⟩:=a 0 (by simp);cases c;rw[wQ f (j::i) h _ (fun r p=>by
    obtain⟨s,v,n,_,o⟩:=a r p;cases n;exact o)]
   congr 2
   simp[ByteArray.empty,ByteArray.emptyWithCapacity]
   try rfl
theorem aW{P:Program}{a:World}{b c:dj}{d e:List UInt8}(f:BS a b d)(g:BS a c e):
  (Extern.BytealgCompare.compare #[b.val,c.val]).run P a=.ok (.int .i64 (Lib.compareBytes d e)) a:=by
 change Sem.run P (do pure (goInt (Extern.BytealgCompare.cmp (<-Extern.Bytes.bytesOf b.val) (<-Extern.Bytes.bytesOf c.val)))) a=_
 simp only[Sem.run_bind,Sem.run_pure,Result.andThen,yZ f,yZ g];rw[Lib.cmp_eq];rfl
theorem Tx:∀(d e:List UInt8),(Lib.compareBytes d e<0)↔Op.bytesLess d e=true
 |[],[]=>by simp[Lib.compareBytes,Op.bytesLess]
 |[],_::_=>by simp[Lib.compareBytes,Op.bytesLess]
 |_::_,[]=>by simp[Lib.compareBytes,Op.bytesLess]
 |a::d,b::e=>by
  have j:=Tx d e;unfold Lib.compareBytes Op.bytesLess;by_cases c:a<b
  .simp[c]
  .by_cases f:b<a
   .have i:¬a=b:=fun g=>by subst g;exact UInt8.lt_irrefl _ f
    simp[c,f,i]
   .have h:a=b:=UInt8.le_antisymm (UInt8.not_lt.1 f) (UInt8.not_lt.1 c);subst h;simp[c,j]
theorem IY:∀(d e:List UInt8),(Lib.compareBytes d e=0)↔d=e
 |[],[]=>by simp[Lib.compareBytes]
 |[],_::_=>by simp[Lib.compareBytes]
 |_::_,[]=>by simp[Lib.compareBytes]
 |a::d,b::e=>by
  have j:=IY d e;unfold Lib.compareBytes;by_cases c:a<b
  .have h:¬a=b:=fun f=>by subst f;exact UInt8.lt_irrefl _ c
   simp[c,h]
  .by_cases g:b<a
   .have h:¬a=b:=fun f=>by subst f;exact UInt8.lt_irrefl _ g
    simp[c,g,h]
   .have i:a=b:=UInt8.le_antisymm (UInt8.not_lt.1 g) (UInt8.not_lt.1 c);subst i;simp[c,j]
theorem aw:∀(a b:List UInt8),-1<=Lib.compareBytes a b/\Lib.compareBytes a b<=1
 |[],[]=>by simp[Lib.compareBytes]
 |[],_::_=>by simp[Lib.compareBytes]
 |_::_,[]=>by simp[Lib.compareBytes]
 |d::a,e::b=>by
  have c:=aw a b;unfold Lib.compareBytes
  split
  .simp
  .split
   .simp
   .exact c
theorem Hv(f g:dj)(c d:List UInt8)(a:World)(i:BS a f c)(j:BS a g d):
  CP 63 #[f.val,g.val] a fun h k=>h=.returned (.int .i64 (Lib.compareBytes c d))/\k=a:=by
 have b:=aW (P:=Tryz.prog) i j;unfold dj.val at b⊢;go_enter Tryz.func63,Tryz.ntmps63;go_wp2;rw[run_callFunc_extern Tryz.func106 (by kernel_rfl) (by kernel_rfl) (by kernel_rfl) (e:=Extern.BytealgCompare.compare) (by kernel_rfl),b];simp only[Result.andThen];rw[Oper.upon_value];go_wp2;go_ret;exact⟨rfl,rfl⟩
end
end Go.Proofs.YtekegfbjbainhaaGreat
