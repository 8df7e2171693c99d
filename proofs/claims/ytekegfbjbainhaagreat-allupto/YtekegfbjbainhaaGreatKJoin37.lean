import Derived.Test.YtekegfbjbainhaaGreatKJoin36
import Derived.Test.YtekegfbjbainhaaGreatKJoin14
import Derived.Deep.RegionHeld3
import Derived.Deep.RegionHeldLaw
set_option maxRecDepth 100000
set_option maxHeartbeats 4000000
set_option linter.unusedVariables false
set_option linter.unusedSimpArgs false
namespace Go.Proofs.YtekegfbjbainhaaGreat
open Go.RowKit
section
theorem kz.mono{b d f c e g m:Nat}{j:dj}{h:List tj}{a:Ij}{k l:World}{i:Ending}(q:kz b d f m j h a k i l)(v:b<=c)(w:d<=e)(x:f<=g):kz c e g m j h a k i l:=by
 obtain⟨r,n,o,s,t,u,p⟩:=q;exact⟨r,n,o,by omega,by omega,by omega,p⟩
theorem kz.behind{e f g b:Nat}{j:dj}{h:List tj}{c:Ij}{a d k:World}{i:Ending}(t:Below a.heap.size a d)(u:b<=a.heap.size)(r:kz e f g b j h c d i k):kz e f g b j h c a i k:=by
 obtain⟨s,l,m,n,o,p,q⟩:=r;exact⟨s,l,m,n,o,p,(t.mono u).trans q⟩
theorem FF(a:List Value)(i j:ByteArray)(k l m n o p q r:UInt8)(c:Nat)(f:dj)(e:List tj)(d:Ij)(b:World)(h:Dj b c f e d)(P:a[0]? =some (.int .i64 10))(Q:a[4]? =some (.string i))(R:a[6]? =some (.string j))
  (K:a[7]? =some (fj k))(L:a[8]? =some (fj l))(M:a[9]? =some (fj m))(F:a[10]? =some (fj n))(G:a[11]? =some (fj o))(H:a[12]? =some (fj p))(I:a[13]? =some (fj q))(J:a[14]? =some (fj r))
  (C:i.size<=140737488351232)(D:j.size<=1000000000)(B:d.rs.length<=1200000000000):
  CP 19 #[.pointer (some ⟨c,0,none⟩),.agg a.toArray] b (kz 1 0 0 c f e d b):=by
 have s:Hd (BB b (b.alloc (.cells a.toArray 43))):=tO;have E:c<b.heap.size:=aj.lt h.law.row;have t:Hd (Dj (b.alloc (.cells a.toArray 43)) c f e d):=h.below s.o;have g:Hd (Calls _ _ _ _ _):=SJ [k,l,m,n,o,p,q,r] i j c f e d _ t.o rfl C D B;unfold dV fj at g;unfold fj at K L M F G H I J;simp only[ZM,dN]at g;generalize (k.toNat:Int)=S at*;generalize (l.toNat:Int)=T at*;generalize (m.toNat:Int)=U at*;generalize (n.toNat:Int)=V at*;generalize (o.toNat:Int)=W at*;generalize (p.toNat:Int)=X at*;generalize (q.toNat:Int)=Y at*;generalize (r.toNat:Int)=Z at*;clear h;go_enter Tryz.func19,Tryz.ntmps19;go_wp2_with fail;refine g.o.mono ?_;rintro O w ⟨rfl,z,N,u,A,v⟩;have x:Hd (Dj w c f e (d.addB z N)):=u;have y:Hd (Below c b w):=(s.o.mono (EN E)).trans (t.o.frameBelow v);clear u A v;go_wp2;go_ret;exact⟨rfl,_,x.o,by simp[Ij.addB],by simp[Ij.addB],by simp[Ij.addB],y.o⟩
theorem KW(a:List Value)(l m e:ByteArray)(n o p q r s t u:UInt8)(d:Nat)(h:dj)(g:List tj)(b:Ij)(c:World)(k:Dj c d h g b)(U:a[0]? =some (.int .i64 11))(V:a[4]? =some (.string l))(W:a[5]? =some (.string m))(X:a[6]? =some (.string e))
  (Q:a[7]? =some (fj n))(R:a[8]? =some (fj o))(S:a[9]? =some (fj p))(L:a[10]? =some (fj q))(M:a[11]? =some (fj r))(N:a[12]? =some (fj s))(O:a[13]? =some (fj t))(P:a[14]? =some (fj u))
  (H:l.size<=140737488351232)(I:m.size<=140737488351232)(J:e.size<=1000000000)(G:b.rs.length+e.size*2<=1200000000000)(F:b.hs.length<=1200000000000):
  CP 19 #[.pointer (some ⟨d,0,none⟩),.agg a.toArray] c (kz (e.size*2) 0 1 d h g b c):=by
 have v:Hd (BB c (c.alloc (.cells a.toArray 43))):=tO;have K:d<c.heap.size:=aj.lt k.law.row;have w:Hd (Dj (c.alloc (.cells a.toArray 43)) d h g b):=k.below v.o;have j:Hd (Calls _ _ _ _ _):=pZ [n,o,p,q,r,s,t,u] l m e d h g b _ w.o rfl H I J G F;unfold dV fj at j;unfold fj at Q R S L M N O P;simp only[ZM,dN]at j;generalize (n.toNat:Int)=Y at*;generalize (o.toNat:Int)=Z at*;generalize (p.toNat:Int)=a0 at*;generalize (q.toNat:Int)=a1 at*;generalize (r.toNat:Int)=a2 at*;generalize (s.toNat:Int)=a3 at*;generalize (t.toNat:Int)=a4 at*;generalize (u.toNat:Int)=a5 at*;clear k;go_enter Tryz.func19,Tryz.ntmps19;go_wp2_with fail;refine j.o.mono ?_;rintro T B ⟨rfl,f,x,y,z,E,A⟩;have C:Hd (Dj B d h g f):=x;have D:Hd (Below d c B):=(v.o.mono (EN K)).trans (w.o.frameBelow A);have i:Hd (f.rs.length<=b.rs.length+e.size*2/\f.gs.length<=b.gs.length+0/\f.hs.length<=b.hs.length+1):=⟨y,by rw[z];omega,by omega⟩;clear x y z E A;go_wp2;go_ret;exact⟨rfl,f,C.o,i.o.1,i.o.2.1,i.o.2.2,D.o⟩
theorem FJ(a:List Value)(b:Int)(m:Value)(d:World)(e:World->Prop)(g:a.length=24)(v:a[0]? =some (.int .i64 b))(r:b=10\/b=11\/b=12\/b=13)
  (j:CP 19 #[m,.agg a.toArray] (d.alloc (.cells a.toArray 43)) fun c h=>c=.returned (.bool true)/\e h):
  CP 12 #[m,.agg a.toArray] d fun c h=>c=.returned (.bool true)/\e h:=by
 obtain⟨f,k,l⟩:=Tryz.rowOp;have s:Hd ((Tryz.prog.info? 43).map (·.size)=some a.length):=by rw[g];exact Tryz.sizeOp
 have o:Hd (Tryz.prog.underlying 43=some f):=k;have p:Hd (f.isRow=true):=l;have u:Hd (a.length=24):=g;have q:Hd (Calls _ _ _ _ _):=j;clear k l g j;rcases r with rfl|rfl|rfl|rfl
 all_goals
  go_enter Tryz.func12,Tryz.ntmps12;go_wp2_with (refine wpList_load_mid (by rfl) 43 (.tmp 3) (by rfl) d.heap.size 0 (by rfl) a f (wy d a 43) o.o p.o s.o ?_);refine q.o.mono ?_;rintro c t ⟨rfl,i⟩;have n:Hd (e t):=i;clear i;go_wp2;go_ret;exact⟨rfl,n.o⟩
theorem pV{i:GQ}(g:List Value)(f:Int)(d:Nat)(b:dj)(c:World)(e:Oz i c d b [])(o:g[0]? =some (.int .i64 f))(l:f=14\/f=15\/f=16):
  CP 12 #[.pointer (some ⟨d,0,none⟩),.agg g.toArray] c fun k m=>k=.returned (.bool true)/\Below c.heap.size c m:=by
 have n:d<c.heap.size:=aj.lt e.row;have h:b.n=0:=(vj (a:=b.a) (n':=b.n) (cap:=b.cap) e.own).1;have p:c.cell? ⟨d,0,none⟩=some (.slice b.a 0 b.cap):=by
  have:c.cell? ⟨d,0,none⟩=some (.slice b.a b.n b.cap):=aj.cell e.row 0 (by simp);rw[h]at this;exact this
 clear h e;have j:Hd (BB c (c.alloc (.cells g.toArray 43))):=tO;rcases l with rfl|rfl|rfl
 all_goals
  go_enter Tryz.func12,Tryz.ntmps12;go_wp2;go_ret;exact⟨rfl,j.o⟩
theorem JK(i:List Value)(t e:Int)(n l o:Nat)(h:Nat)(b:dj)(d:List tj)(j:Ij)(c:World)(v:Dj c h b d j)(w:i.length=24)(ab:i[0]? =some (.int .i64 t))(S:t=14\/t=15\/t=16)(ac:i[1]? =some (.int .i64 e))(Q: -9223372036854775808<=e)(R:e<=9223372036854775807)(U:1<=d.length)
  (G:∀(g:tj) (f:World),Dj f h b d j->g∈d->BB c f->CP 23 #[.pointer (some ⟨h,0,none⟩),.agg i.toArray,.pointer (some ⟨g.pb,0,none⟩)] f (kz n l o h b d j f)):
  CP 12 #[.pointer (some ⟨h,0,none⟩),.agg i.toArray] c (kz n l o h b d j c):=by
 have p:=v.law;obtain⟨g,z,A⟩:=Tryz.rowOp;have Y:Hd ((Tryz.prog.info? 43).map (·.size)=some i.length):=by rw[w];exact Tryz.sizeOp
 have J:Hd (Tryz.prog.underlying 43=some g):=z;have K:Hd (g.isRow=true):=A;have a2:Hd (i.length=24):=w;have I:Hd (BB c (c.alloc (.cells i.toArray 43))):=tO;have Z:h<c.heap.size:=aj.lt p.row;have a0:c.cell? ⟨h,0,none⟩=some (.slice b.a b.n b.cap):=aj.cell p.row 0 (by simp);obtain⟨W,V,E,D⟩:=vj (a:=b.a) (n':=b.n) (cap:=b.cap) p.own;obtain⟨m,s,a5⟩:∃m,b.a=some ⟨m,0,none⟩/\m<c.heap.size:=by
  rcases D with⟨_,a3,_⟩|⟨m,s,_,T⟩
  .omega
  .exact⟨m,s,T⟩
 rw[s]at a0;have F:b.n<=maxLen:=by omega
 obtain⟨x,B,a4⟩:∃g,d[aq e b.n]? =some g/\c.cell? ⟨m,aq e b.n,none⟩=some (.pointer (some ⟨g.pb,0,none⟩)):=by
  have C:aq e b.n<d.length:=by have:=Yz e b.n (by omega);omega
  refine⟨d[aq e b.n],UM C,?_⟩;have X:jj c b.a (d.map (fun g=>Cj g.pb)):=(jj.ofOwn p.own).1;obtain⟨l,ad,k,_,y⟩:=X (aq e b.n) (by simpa using C);rw[s]at k;cases k;rw[sN]at y;rw[y];simp[Cj]
 have L:Hd (x∈d):=mN B;have a6:(aq e b.n:Int)<b.n:=by have:=Yz e b.n (by omega);omega
 have N:Hd (∀f,CP 20 #[.int .i64 e,.int .i64 (b.n:Int)] f fun k a1=>k=.returned (.int .i64 (aq e b.n:Int))/\a1=f):=fun f=>Uv e b.n f Q R (by omega) F;generalize aq e b.n=aa at*;have a8:1<=b.n:=by omega
 have a9:(b.n:Int)<=9223372036854775807:=by unfold maxLen at E;omega
 have a7:((b.n:Int)==0)=false:=by simp;omega
 have M:Hd (Dj c h b d j):=v;have P:Hd (∀(g:tj) (f:World),Dj f h b d j->g∈d->BB c f->CP 23 #[.pointer (some ⟨h,0,none⟩),.agg i.toArray,.pointer (some ⟨g.pb,0,none⟩)] f (kz n l o h b d j f)):=G;clear z A w W V E D G U B F v p;rcases S with rfl|rfl|rfl
 all_goals
  go_enter Tryz.func12,Tryz.ntmps12;go_wp2;go_quiet (first|(go_at_call 20;exact Calls.quiet_of_same (N.o _)));have u:Hd (BB c ((c.alloc (.cells i.toArray 43)).drewN nq)):=by
   have q:=I.o;exact⟨q.os,q.tape,q.output,q.size,q.block⟩
  go_wp2_with (refine wpList_load_mid (by rfl) 43 (.tmp 3) (by rfl) c.heap.size 0 (by rfl) i g (by exact wy c i 43) J.o K.o Y.o ?_);refine(P.o x _ (M.o.below u.o) L.o u.o).mono ?_;rintro k H r;obtain⟨rfl,r⟩:k=.returned (.bool true)/\kz n l o h b d j c k H:=⟨r.1,kz.behind u.o (EN Z) r⟩;have O:Hd (kz n l o h b d j c (.returned (.bool true)) H):=r;clear r;go_wp2;go_ret;exact O.o
def Ij.Caps(a:Ij):Prop:=a.rs.length<=1200000000000/\a.gs.length<=1200000000000/\a.hs.length<=1200000000000
def TJ(d b c a:Nat):Prop:=(a+1)*d<=1190000000000/\(a+1)*b<=1190000000000/\(a+1)*c<=1190000000000
def Xq(g e f:Nat)(c:World)(b:Nat)(wr:World):Prop:=Below c.heap.size c wr/\∃h d a,Dj wr c.heap.size h d a/\d.length<=b/\a.rs.length<=b*g/\a.gs.length<=b*e/\a.hs.length<=b*f/\a.Caps
theorem Xq.mono{d b c:Nat}{e wr:World}{a:Nat}(h:Xq d b c e a wr):Xq d b c e (a+1) wr:=by
 obtain⟨i,l,g,f,j,p,q,r,s,k⟩:=h;have m:(a+1)*d=a*d+d:=xN a d;have n:(a+1)*b=a*b+b:=xN a b;have o:(a+1)*c=a*c+c:=xN a c;exact⟨i,l,g,f,j,by omega,by omega,by omega,by omega,k⟩
theorem Xq.drew{e c d:Nat}{g wr:World}{f:Nat}(m:Nat)(j:Xq e c d g f wr):Xq e c d g f (wr.drewN m):=by
 obtain⟨a,n,i,h,k,l⟩:=j;have b:=VM wr.heap.size wr;exact⟨⟨a.os,a.tape,a.output,a.size,a.block⟩,n,i,h,k.below ⟨b.os,b.tape,b.output,b.size,b.block⟩,l⟩
theorem GF(b:World):Dj (b.alloc (.cells #[.slice none 0 0,.slice none 0 0,.slice none 0 0,.slice none 0 0] 34)) b.heap.size ⟨none,0,0⟩ [] ⟨⟨none,0,0⟩,⟨none,0,0⟩,⟨none,0,0⟩,[],[],[]⟩:=
 Dj.start ⟨aj.new b _ _,iN _ _ _ _,fun c a=>(by cases a),fun c a=>(by cases a),fun i e=>(by cases e),fun g h c f _ d=>(by simp at d)⟩
theorem IF(d b c:Nat)(a:World):Xq d b c a 0 (a.alloc (.cells #[.slice none 0 0,.slice none 0 0,.slice none 0 0,.slice none 0 0] 34)):=
 ⟨tO,_,_,_,GF a,TM _,by simp,by simp,by simp,by simp[Ij.Caps]⟩
theorem Xq.next{d b c h i j:Nat}{f wr m:World}{a:Nat}{l:dj}{g:List tj}{e:Ij}{k:Ending}(r:Below f.heap.size f wr)(D:g.length<=a)(E:e.rs.length<=a*d)(F:e.gs.length<=a*b)(G:e.hs.length<=a*c)(t:kz h i j f.heap.size l g e wr k m)(H:h<=d)(I:i<=b)(J:j<=c)(s:TJ d b c a):
  k=.returned (.bool true)/\Xq d b c f (a+1) m:=by
 obtain⟨q,n,o,A,B,C,p⟩:=t;have x:(a+1)*d=a*d+d:=xN a d;have y:(a+1)*b=a*b+b:=xN a b;have z:(a+1)*c=a*c+c:=xN a c;obtain⟨u,v,w⟩:=s;exact⟨q,r.trans p,l,g,n,o,by omega,by omega,by omega,by omega,⟨by omega,by omega,by omega⟩⟩
theorem KK(d b c:Nat)(f wr:World)(a:Nat)(e:List Value)(s:Xq d b c f a wr)(t:e.length=24)(v:e[0]? =some (.int .i64 2))(G:a+1<=17592186044416):
  CP 12 #[.pointer (some ⟨f.heap.size,0,none⟩),.agg e.toArray] wr fun i l=>i=.returned (.bool true)/\Xq d b c f (a+1) l:=by
 obtain⟨j,w,n,m,g,C,D,E,F,r⟩:=s;have z:(a+1)*d=a*d+d:=xN a d;have A:(a+1)*b=a*b+b:=xN a b;have B:(a+1)*c=a*c+c:=xN a c;refine(wF e f.heap.size w n wr g.law t v (by omega)).mono ?_;rintro i l ⟨rfl,⟨x,y,o,p,q⟩,k⟩;refine⟨rfl,j.trans (k.below j.size (fun u h=>?_)),x,_,m,g.new o p q k,by simp;omega,by omega,by omega,by omega,r⟩;rcases h with rfl|h
 .exact TM _
 .exact EN (g.law.psb u h)
theorem tX(g e f:Nat)(j wr:World)(a:Nat)(b:List Value)(d l:Int)(y:Xq g e f j a wr)(E:b.length=24)(v:b[0]? =some (.int .i64 d))(k:d=3\/d=4\/d=5)(J:b[1]? =some (.int .i64 l))(z: -9223372036854775808<=l)(A:l<=9223372036854775807)(H:qX b):
  CP 12 #[.pointer (some ⟨j.heap.size,0,none⟩),.agg b.toArray] wr fun p q=>p=.returned (.bool true)/\Xq g e f j (a+1) q:=by
 obtain⟨h,m,o,r,i,O,P,Q,R,t⟩:=y;have K:(a+1)*g=a*g+g:=xN a g;have L:(a+1)*e=a*e+e:=xN a e;have M:(a+1)*f=a*f+f:=xN a f;by_cases F:o.length=0
 .have G:o=[]:=ZN.1 F;subst G;refine(dH b d j.heap.size m wr i.law v k).mono ?_;rintro p q ⟨rfl,c⟩;exact⟨rfl,h.trans (c.mono h.size),m,[],r,i.below c,by omega,by omega,by omega,by omega,t⟩
 .refine(eH b d l j.heap.size m o wr i.law E v k J z A (by omega) (fun s n=>H _ s n)).mono ?_;rintro p q ⟨rfl,s,n,B,c,u,S,D⟩;obtain⟨w,x,N⟩:=(i.below c).step D u;obtain⟨_,_,_,C,_⟩:=u;refine⟨rfl,(h.trans (c.mono h.size)).trans (C.below (WM h.size c.size) (fun I k=>EN (i.law.low n B I k).1)),m,w,r,x,by omega,by omega,by omega,by omega,t⟩
theorem LW(e c d:Nat)(g wr:World)(a:Nat)(b:List Value)(k:Int)(f:ByteArray)(q:Xq e c d g a wr)(r:b.length=24)(t:b[0]? =some (.int .i64 1))(u:b[1]? =some (.int .i64 k))(v:b[4]? =some (.string f))(s:f.size<=140737488351232):
  CP 12 #[.pointer (some ⟨g.heap.size,0,none⟩),.agg b.toArray] wr fun h l=>h=.returned (.bool true)/\Xq e c d g (a+1) l:=by
 obtain⟨i,w,n,m,o,A,B,C,D,p⟩:=q;have x:(a+1)*e=a*e+e:=xN a e;have y:(a+1)*c=a*c+c:=xN a c;have z:(a+1)*d=a*d+d:=xN a d;refine(qW b k f _ wr r t u v s).mono ?_;rintro h l ⟨rfl,j⟩;exact⟨rfl,i.trans (j.mono i.size),w,n,m,o.below j,by omega,by omega,by omega,by omega,p⟩
theorem JF(b d e:Nat)(c wr:World)(f:Nat)(a:Fy)(u:Xq b d e c f wr)(k:TJ b d e f)(o:1<=b)(j:a.kind=10)(v:a.s.size<=140737488351232)(x:a.u.size<=1000000000):
  CP 12 #[.pointer (some ⟨c.heap.size,0,none⟩),.agg a.cells.toArray] wr fun g l=>g=.returned (.bool true)/\Xq b d e c (f+1) l:=by
 obtain⟨h,y,n,m,p,q,r,s,t,C⟩:=u;obtain⟨z,A,B⟩:=id k;rw[xN]at z A B;have i:Below wr.heap.size wr (wr.alloc (.cells a.cells.toArray 43)):=tO;refine FJ a.cells 10 _ wr (Xq b d e c (f+1)) rfl (by rw[<-j];rfl) (SM rfl) ?_;refine(FF a.cells a.s a.u (a.d.getD 0 0) (a.d.getD 1 0) (a.d.getD 2 0) (a.d.getD 3 0) (a.d.getD 4 0) (a.d.getD 5 0) (a.d.getD 6 0) (a.d.getD 7 0) c.heap.size y n m _ (p.below i) (by rw[<-j];rfl) rfl rfl rfl rfl rfl rfl rfl rfl rfl rfl v x (by omega)).mono ?_;intro g l w;exact Xq.next (h.trans (i.mono h.size)) q r s t w o (nN _) (nN _) k
theorem MW(c e b:Nat)(d wr:World)(f:Nat)(a:Fy)(v:Xq c e b d f wr)(k:TJ c e b f)(p:a.u.size*2<=c)(o:1<=b)(j:a.kind=11)(w:a.s.size<=140737488351232)(y:a.t.size<=140737488351232)(E:a.u.size<=1048576):
  CP 12 #[.pointer (some ⟨d.heap.size,0,none⟩),.agg a.cells.toArray] wr fun g l=>g=.returned (.bool true)/\Xq c e b d (f+1) l:=by
 obtain⟨h,z,n,m,q,r,s,t,u,D⟩:=v;obtain⟨A,B,C⟩:=id k;rw[xN]at A B C;have i:Below wr.heap.size wr (wr.alloc (.cells a.cells.toArray 43)):=tO;refine FJ a.cells 11 _ wr (Xq c e b d (f+1)) rfl (by rw[<-j];rfl) (RM (SM rfl)) ?_;refine(KW a.cells a.s a.t a.u (a.d.getD 0 0) (a.d.getD 1 0) (a.d.getD 2 0) (a.d.getD 3 0) (a.d.getD 4 0) (a.d.getD 5 0) (a.d.getD 6 0) (a.d.getD 7 0) d.heap.size z n m _ (q.below i) (by rw[<-j];rfl) rfl rfl rfl rfl rfl rfl rfl rfl rfl rfl rfl w y (by omega) (by omega) (by omega)).mono ?_;intro g l x;exact Xq.next (h.trans (i.mono h.size)) r s t u x p (nN _) o k
theorem LK(d g c:Nat)(e wr:World)(b:Nat)(a:Fy)(K:Xq d g c e b wr)(z:TJ d g c b)(E:2000000<=d)(D:1<=c)(m:a.kind=14\/a.kind=15)(A:a.s.size<=140737488351232)(B:a.t.size<=140737488351232)
  (L: -9223372036854775808<=a.a)(M:a.a<=9223372036854775807)(u: -9223372036854775808<=a.b)(v:a.b<=9223372036854775807)(w: -9223372036854775808<=a.c)(x:a.c<=9223372036854775807):
  CP 12 #[.pointer (some ⟨e.heap.size,0,none⟩),.agg a.cells.toArray] wr fun i k=>i=.returned (.bool true)/\Xq d g c e (b+1) k:=by
 obtain⟨p,j,h,l,q,F,G,H,I,J⟩:=K;obtain⟨P,Q,R⟩:=id z;rw[xN]at P Q R;have S:(b+1)*d=b*d+d:=xN b d;have T:(b+1)*g=b*g+g:=xN b g;have U:(b+1)*c=b*c+c:=xN b c;have y:a.kind=14\/a.kind=15\/a.kind=16:=by omega
 by_cases N:h.length=0
 .have O:h=[]:=ZN.1 N;subst O;refine(pV a.cells a.kind e.heap.size j wr q.law rfl y).mono ?_;rintro i k ⟨rfl,t⟩;exact⟨rfl,p.trans (t.mono p.size),j,[],l,q.below t,by omega,by omega,by omega,by omega,J⟩
 .refine(JK a.cells a.kind a.a 2000000 0 1 e.heap.size j h l wr q rfl rfl y rfl L M (by omega) (fun n o r s V=>?_)).mono ?_
  .by_cases C:n.tds.length=0
   .exact(oV a.cells e.heap.size j h l n o r s C).mono (fun i k f=>f.mono (by omega) (by omega) (by omega))
   .rcases m with m|m
    .exact(lH a.cells a.b a.c a.s a.t a.u e.heap.size j h l n o r s (by omega) (by rw[<-m];rfl) rfl rfl rfl rfl rfl u v w x A B (by omega)).mono (fun i k f=>f.mono (by omega) (by omega) (by omega))
    .exact(JW a.cells a.b a.c a.s a.t a.u e.heap.size j h l n o r s (by omega) (by rw[<-m];rfl) rfl rfl rfl rfl rfl u v w x A B (by omega) (by omega)).mono (fun i k f=>f.mono (by omega) (by omega) (by omega))
  .intro i k f;exact Xq.next p F G H I f E (nN _) D z
theorem KF(j h i:Nat)(d wr:World)(l:Nat)(r:Xq j h i d l wr):
  CP 13 #[.pointer (some ⟨d.heap.size,1,none⟩)] wr fun e s=>e=.returned (.bool true)/\Xq j h i d l s:=by
 obtain⟨f,k,m,a,b,n,o,p,q,c⟩:=r;refine(fH d.heap.size k a.bs a.dg a.es a.rs a.gs a.hs wr b.row b.bk b.bd b.be c.1 c.2.1 c.2.2).mono ?_;rintro e t ⟨rfl,g⟩;exact⟨rfl,f.trans (g.mono f.size),k,m,a,b.below g,n,o,p,q,c⟩
def Qw(f:World)(e:Value):Prop:=∃(b:Option Addr) (c:Nat) (a:List (List UInt8)),e=.slice b a.length c/\tq f b a/\a.length<=17592186044416/\a.length<=c/\c<=9223372036854775807/\((b=none/\a=[]/\c=0)\/∃d,b=some d)
theorem Qw.below{w a:World}{b:Value}(e:Qw w b)(i:Below w.heap.size w a):Qw a b:=by
 obtain⟨c,d,j,f,g,h⟩:=e;exact⟨c,d,j,f,g.below i,h⟩
theorem tM(a:List Value)(v G:Int)(w x y z A B C D l m n o p q r s:UInt8)(d:List (List UInt8))(f:Option Addr)(g:Nat)(c:Nat)(k:dj)(j:List tj)(e:Ij)(b:World)(t:Dj b c k j e)(a7:a[0]? =some (.int .i64 12))(a8:a[2]? =some (.int .i64 v))(aa:a[3]? =some (.int .i64 G))(a4:a[7]? =some (fj w))(a5:a[8]? =some (fj x))(a6:a[9]? =some (fj y))(R:a[10]? =some (fj z))(S:a[11]? =some (fj A))(T:a[12]? =some (fj B))(U:a[13]? =some (fj C))(V:a[14]? =some (fj D))(W:a[15]? =some (fj l))(X:a[16]? =some (fj m))(Y:a[17]? =some (fj n))(Z:a[18]? =some (fj o))(a0:a[19]? =some (fj p))(a1:a[20]? =some (fj q))(a2:a[21]? =some (fj r))(a3:a[22]? =some (fj s))(a9:a[23]? =some (.slice f d.length g))
  (M:v<=9223372036854775807)(F:tq b f d)(O:d.length<=17592186044416)(P:d.length<=g)(N:g<=9223372036854775807)(E:(f=none/\d=[]/\g=0)\/∃L,f=some L):
  CP 19 #[.pointer (some ⟨c,0,none⟩),.agg a.toArray] b (kz 0 0 0 c k j e b):=by
 have h:Hd (BB b (b.alloc (.cells a.toArray 43))):=tO;have Q:c<b.heap.size:=aj.lt t.law.row;have K:Hd (Dj (b.alloc (.cells a.toArray 43)) c k j e):=t.below h.o;have i:Hd (Calls _ _ _ (b.alloc (.cells a.toArray 43)) _):=zK v G [w,x,y,z,A,B,C,D] [l,m,n,o,p,q,r,s] d f g _ rfl rfl M (F.below h.o) O P N E;unfold Vj dV fj at i;unfold fj at a4 a5 a6 R S T U V W X Y Z a0 a1 a2 a3;simp only[ZM,dN]at i;generalize (w.toNat:Int)=ac at*;generalize (x.toNat:Int)=ad at*;generalize (y.toNat:Int)=ae at*;generalize (z.toNat:Int)=af at*;generalize (A.toNat:Int)=ag at*;generalize (B.toNat:Int)=ah at*;generalize (C.toNat:Int)=ai at*;generalize (D.toNat:Int)=ak at*;generalize (l.toNat:Int)=al at*;generalize (m.toNat:Int)=am at*;generalize (n.toNat:Int)=an at*;generalize (o.toNat:Int)=ao at*;generalize (p.toNat:Int)=ap at*;generalize (q.toNat:Int)=ar at*;generalize (r.toNat:Int)=au at*;generalize (s.toNat:Int)=av at*;clear t F E;go_enter Tryz.func19,Tryz.ntmps19;go_wp2_with fail;refine i.o.mono ?_;rintro ab H ⟨rfl,u⟩;have I:Hd (Dj H c k j e):=K.o.below u;have J:Hd (Below c b H):=(h.o.trans (u.mono h.o.size)).mono (EN Q);clear u i;go_wp2;go_ret;exact⟨rfl,e,I.o,by omega,by omega,by omega,J.o⟩
theorem uM(a:List Value)(v G:Int)(w x y z A B C D l m n o p q r s:UInt8)(d:List (List UInt8))(f:Option Addr)(g:Nat)(c:Nat)(k:dj)(j:List tj)(e:Ij)(b:World)(t:Dj b c k j e)(a7:a[0]? =some (.int .i64 13))(a8:a[2]? =some (.int .i64 v))(aa:a[3]? =some (.int .i64 G))(a4:a[7]? =some (fj w))(a5:a[8]? =some (fj x))(a6:a[9]? =some (fj y))(R:a[10]? =some (fj z))(S:a[11]? =some (fj A))(T:a[12]? =some (fj B))(U:a[13]? =some (fj C))(V:a[14]? =some (fj D))(W:a[15]? =some (fj l))(X:a[16]? =some (fj m))(Y:a[17]? =some (fj n))(Z:a[18]? =some (fj o))(a0:a[19]? =some (fj p))(a1:a[20]? =some (fj q))(a2:a[21]? =some (fj r))(a3:a[22]? =some (fj s))(a9:a[23]? =some (.slice f d.length g))
  (M:v<=9223372036854775807)(F:tq b f d)(O:d.length<=17592186044416)(P:d.length<=g)(N:g<=9223372036854775807)(E:(f=none/\d=[]/\g=0)\/∃L,f=some L):
  CP 19 #[.pointer (some ⟨c,0,none⟩),.agg a.toArray] b (kz 0 0 0 c k j e b):=by
 have h:Hd (BB b (b.alloc (.cells a.toArray 43))):=tO;have Q:c<b.heap.size:=aj.lt t.law.row;have K:Hd (Dj (b.alloc (.cells a.toArray 43)) c k j e):=t.below h.o;have i:Hd (Calls _ _ _ (b.alloc (.cells a.toArray 43)) _):=FK G v [l,m,n,o,p,q,r,s] [w,x,y,z,A,B,C,D] d f g _ rfl rfl M (F.below h.o) O P N E;unfold Vj fj at i;unfold fj at a4 a5 a6 R S T U V W X Y Z a0 a1 a2 a3;simp only[ZM,dN]at i;generalize (w.toNat:Int)=ac at*;generalize (x.toNat:Int)=ad at*;generalize (y.toNat:Int)=ae at*;generalize (z.toNat:Int)=af at*;generalize (A.toNat:Int)=ag at*;generalize (B.toNat:Int)=ah at*;generalize (C.toNat:Int)=ai at*;generalize (D.toNat:Int)=ak at*;generalize (l.toNat:Int)=al at*;generalize (m.toNat:Int)=am at*;generalize (n.toNat:Int)=an at*;generalize (o.toNat:Int)=ao at*;generalize (p.toNat:Int)=ap at*;generalize (q.toNat:Int)=ar at*;generalize (r.toNat:Int)=au at*;generalize (s.toNat:Int)=av at*;clear t F E;go_enter Tryz.func19,Tryz.ntmps19;go_wp2_with fail;refine i.o.mono ?_;rintro ab H ⟨rfl,u⟩;have I:Hd (Dj H c k j e):=K.o.below u;have J:Hd (Below c b H):=(h.o.trans (u.mono h.o.size)).mono (EN Q);clear u i;go_wp2;go_ret;exact⟨rfl,e,I.o,by omega,by omega,by omega,J.o⟩
theorem sY(h f g:Nat)(b wr:World)(i:Nat)(a:Fy)(F:Xq h f g b i wr)(B:TJ h f g i)(c:a.kind=12\/a.kind=13)(A:a.b<=9223372036854775807)(I:a.c<=9223372036854775807)(G:Qw b a.path):
  CP 12 #[.pointer (some ⟨b.heap.size,0,none⟩),.agg a.cells.toArray] wr fun j l=>j=.returned (.bool true)/\Xq h f g b (i+1) l:=by
 obtain⟨d,E,p,m,v,w,x,y,z,H⟩:=F;have e:Below wr.heap.size wr (wr.alloc (.cells a.cells.toArray 43)):=tO;obtain⟨n,o,D,C,q,r,s,t,u⟩:=(G.below d).below e;rcases c with c|c
 .refine FJ a.cells 12 _ wr (Xq h f g b (i+1)) rfl (by rw[<-c];rfl) (RM (RM (SM rfl))) ?_;refine(tM a.cells a.b a.c (a.d.getD 0 0) (a.d.getD 1 0) (a.d.getD 2 0) (a.d.getD 3 0) (a.d.getD 4 0) (a.d.getD 5 0) (a.d.getD 6 0) (a.d.getD 7 0) (a.e.getD 0 0) (a.e.getD 1 0) (a.e.getD 2 0) (a.e.getD 3 0) (a.e.getD 4 0) (a.e.getD 5 0) (a.e.getD 6 0) (a.e.getD 7 0) D n o b.heap.size E p m _ (v.below e) (by rw[<-c];rfl) rfl rfl rfl rfl rfl rfl rfl rfl rfl rfl rfl rfl rfl rfl rfl rfl rfl rfl (by rw[<-C];rfl) A q r s t u).mono ?_;intro j l k;exact Xq.next (d.trans (e.mono d.size)) w x y z k (nN _) (nN _) (nN _) B
 .refine FJ a.cells 13 _ wr (Xq h f g b (i+1)) rfl (by rw[<-c];rfl) (RM (RM (RM rfl))) ?_;refine(uM a.cells a.b a.c (a.d.getD 0 0) (a.d.getD 1 0) (a.d.getD 2 0) (a.d.getD 3 0) (a.d.getD 4 0) (a.d.getD 5 0) (a.d.getD 6 0) (a.d.getD 7 0) (a.e.getD 0 0) (a.e.getD 1 0) (a.e.getD 2 0) (a.e.getD 3 0) (a.e.getD 4 0) (a.e.getD 5 0) (a.e.getD 6 0) (a.e.getD 7 0) D n o b.heap.size E p m _ (v.below e) (by rw[<-c];rfl) rfl rfl rfl rfl rfl rfl rfl rfl rfl rfl rfl rfl rfl rfl rfl rfl rfl rfl (by rw[<-C];rfl) A q r s t u).mono ?_;intro j l k;exact Xq.next (d.trans (e.mono d.size)) w x y z k (nN _) (nN _) (nN _) B
end
section
open Go.ChangeShapes Go.WideShapes Go.ChangeAt Go.RowKit Go.Deep
theorem mH(a:List (List UInt8))(d:∀g∈a,g.length=8)(b c:Nat)(f:b<a.length)(h:c<8):(qj a)[b*8+c]? =(a[b].map fj)[c]? :=by
 have e:=iQ a d b (by omega);rw[naj f]at e;rw[<-oaj,e];simp only[qj,JN];rw[DN (by simp[d _ (bN f)];exact h)]
section
variable {H:Type} {enc:TypeId×Value->H}
theorem nH{m:World}{y:Fy}(B:XH enc m y):Qw m y.path:=by
 obtain⟨_,_,_,_,_,_,W,T,Y,M,O⟩:=B;rcases open_slice Tryz.underlying41 M with⟨g,_⟩|⟨j,b,A,V,X,Q,R,g,_,G,I,H,l,w⟩
 .simp only[waj,and_true]at g;exact⟨none,0,[],g,⟨fun a e=>absurd e (wN _),by simp⟩,by simp,by simp,by omega,SM ⟨rfl,rfl,rfl⟩⟩
 simp only[waj,and_true]at g;simp only[YN]at l;obtain⟨rfl,rfl⟩:=l;rw[Tryz.cellsDigR]at w;have J:∀a,a<b->∃c:List UInt8,c.length=8/\∀f t,(c.map fj)[f]? =some t->m.cell? ((j.add (a*8)).add f)=some t:=by
  intro a e;obtain⟨S,o,N⟩:=w a (by rw[H];simp;omega);obtain⟨c,k,rfl⟩:=eX N;refine⟨c,k,fun f t i=>?_⟩;unfold World.cells? at o;rw[if_pos (nN _)]at o;have r:f<8:=by have:=(kN.1 i).1;simp[k]at this;exact this
  have:=mapM_some_get o f f (by simp[r]);rw[this];exact i
 obtain⟨d,q⟩:= @choose_lt (List UInt8) ⟨[]⟩ b _ J;have h:((List.range b).map d).length=b:=by simp
 have n:∀c∈(List.range b).map d,c.length=8:=fun c k=>by
  obtain⟨a,e,rfl⟩:=vN.1 k;exact(q a (List.mem_range.1 e)).1
 have L:b<=17592186044416:=by
  have v:=O _ (by
   simp only[DataW.weights,Tryz.underlying41,IN];exact SM rfl)
  have D:Tryz.prog.bytesOf 36=8:=by kernel_rfl
  rw[D]at v;have U:reachBytes=140737488351232:=rfl;simp at v;omega
 refine⟨some j,A,(List.range b).map d,by rw[h];exact g,⟨fun a e=>?_,n⟩,by rw[h];exact L,by rw[h];exact G,by unfold maxLen at I;omega,RM ⟨j,rfl⟩⟩;have F:=mq _ n;rw[h]at F;have x:a/8<b:=by omega
 have r:a%8<8:=Nat.mod_lt _ (by omega);obtain⟨z,s,P⟩:=j;have K:P=none:=by
  obtain⟨E,C⟩:=q 0 (by omega);obtain⟨u,l⟩:∃u,((d 0).map fj)[0]? =some u:=⟨_,UM (by simp[E])⟩;have:=C 0 u l;simpa[Addr.add]using World.cell?_spot this
 subst K;have i:(qj ((List.range b).map d))[a]? =((d (a/8)).map fj)[a%8]? :=by
  have:=mH _ n (a/8) (a%8) (by rw[h];exact x) r;rw[show a/8*8+a%8=a by omega]at this;rw[this];simp
 rw[UM e]at i;have p:=(q (a/8) x).2 (a%8) _ i.symm;rw[mx,mx,show s+a/8*8+a%8=s+a by omega]at p;exact⟨z,s,rfl,lU p,p⟩
end
end
section
attribute [local go_sem↓] Go.wp_at_zero Go.wp_at_succ
def Iy:Nat->Nat->List (List UInt8)->List (List UInt8)
 |0,_,_=>[]
 |c+1,b,a=>if a.length<=1 then[]else if b<gj a.length then Iy c b (a.take (gj a.length))++[Uj 42 (a.drop (gj a.length))]else Iy c (b - gj a.length) (a.drop (gj a.length))++[Uj 42 (a.take (gj a.length))]
def yk:Nat->Nat->List (List UInt8)->Bool->List (List UInt8)
 |0,_,_,_=>[]
 |c+1,b,a,d=>if b=a.length then(if d=true then[]else[Uj 42 a])else if b<=gj a.length then yk c b (a.take (gj a.length)) d++[Uj 42 (a.drop (gj a.length))]else yk c (b - gj a.length) (a.drop (gj a.length)) false++[Uj 42 (a.take (gj a.length))]
theorem UV:∀(d e:Nat) (f:List (List UInt8)),∀c∈Iy d e f,c.length=8
 |0,_,_,c,a=>by cases a
 |d+1,e,f,c,a=>by
  unfold Iy at a
  split at a
  .cases a
  .split at a
   .rcases fN.1 a with b|b
    .exact UV d _ _ c b
    .rw[eN.1 b];exact Wj 41 _
   .rcases fN.1 a with b|b
    .exact UV d _ _ c b
    .rw[eN.1 b];exact Wj 41 _
theorem MK:∀(d f:Nat) (e:List (List UInt8)) (g:Bool),∀c∈yk d f e g,c.length=8
 |0,_,_,_,c,a=>by cases a
 |d+1,f,e,g,c,a=>by
  unfold yk at a
  split at a
  .split at a
   .cases a
   .rw[eN.1 a];exact Wj 41 _
  .split at a
   .rcases fN.1 a with b|b
    .exact MK d _ _ _ c b
    .rw[eN.1 b];exact Wj 41 _
   .rcases fN.1 a with b|b
    .exact MK d _ _ _ c b
    .rw[eN.1 b];exact Wj 41 _
theorem Ty:∀(b c:Nat) (a:List (List UInt8)),(Iy b c a).length<=b
 |0,_,_=>nN _
 |b+1,c,a=>by
  unfold Iy;have d:=Ty b c (a.take (gj a.length));have e:=Ty b (c - gj a.length) (a.drop (gj a.length))
  split
  .simp
  .split<;>simp<;>omega
theorem Jk:∀(b c:Nat) (a:List (List UInt8)) (d:Bool),(yk b c a d).length<=b
 |0,_,_,_=>nN _
 |b+1,c,a,d=>by
  unfold yk;have e:=Jk b c (a.take (gj a.length)) d;have f:=Jk b (c - gj a.length) (a.drop (gj a.length)) false
  split
  .split<;>simp
  .split<;>simp<;>omega
def zj(b:World)(c:List (List UInt8))(e:Ending)(d:World):Prop:=∃a:dj,e=.returned (.slice a.a a.n a.cap)/\d.ownsRow b.heap.size 36 8 (.slice a.a a.n a.cap) c.length (qj c)/\Below b.heap.size b d
theorem Ix(a:List (List UInt8))(b:List UInt8):qj (a++[b])=qj a++b.map fj:=by
 unfold qj;rw[KN];simp
theorem vM(a:List (List UInt8))(q s e:Nat)(f:Nat)(d:List (List UInt8))(b:World)(V:2<=a.length)(a3:a.length<=40)(a6:a.length<=e)(a4:e<=9223372036854775807)(K:tq b (some ⟨q,s,none⟩) a)(a7:f<gj a.length)(W:d.length<=100)
  (F:∀c,BB b c->CP 97 #[.int .i64 f,.slice (some ⟨q,s,none⟩) (gj a.length) e] c (zj c d)):
  CP 97 #[.int .i64 f,.slice (some ⟨q,s,none⟩) a.length e] b (zj b (d++[Uj 42 (a.drop (gj a.length))])):=by
 have a9:=Rq a.length V;obtain⟨h,i,j,k,l,m,n,o,y⟩:=uj (Uj 42 (a.drop (gj a.length))) (Wj 41 _);have Q:Hd (∀b:World,CP 122 #[.int .i64 (a.length:Int)] b fun f z=>f=.returned (.int .i64 (gj a.length:Int))/\z=b):=fun b=>My _ _ (by omega);have T:Hd (∀c,BB b c->CP 87 #[.slice (some ⟨q,s+gj a.length*8,none⟩) (a.length - gj a.length) (e - gj a.length)] c fun f z=>f=.returned (dV [h,i,j,k,l,m,n,o])/\Below c.heap.size c z):=fun c X=>by
  rw[<-y];have E:=Kk 42 (a.drop (gj a.length)) (some ⟨q,s+gj a.length*8,none⟩) (e - gj a.length) c (by simp;omega) (by simp;omega) (by omega) ((K.below X).drop _ (by omega));rw[oN]at E;exact E
 rw[y];have R:Hd (∀c,BB b c->CP 97 #[.int .i64 f,.slice (some ⟨q,s,none⟩) (gj a.length) e] c (zj c d)):=F;have U:Hd (dV [h,i,j,k,l,m,n,o]=.agg (cO h i j k l m n o)):=rfl;have A:Hd (d.length<=100):=W;generalize gj a.length=g at*;clear F y K;generalize a.length=p at*;have ak:(p:Int)<=40:=by omega
 have ai:(2:Int)<=p:=by omega
 have ab:(1:Int)<=g:=by omega
 have ae:(g:Int)<p:=by omega
 have a5:(e:Int)<=9223372036854775807:=by omega
 have al:(p:Int)<=e:=by omega
 have ac:¬e=g:=by omega
 have aa:(0:Int)<=g:=by omega
 have ad:(g:Int)<=e:=by omega
 have af:(g:Int)<=p:=by omega
 have ag:(0:Int)<=p:=by omega
 have am:IntKind.i64.wrap (g:Int)=(g:Int):=Go.IntWalk.i64_in _ ⟨by omega,by omega⟩;have a8:(f:Int)<g:=by omega
 have ah:((p:Int)==1)=false:=by rw[tN];simp only[ne_eq,beq_iff_eq];omega
 go_enter Tryz.func97,Tryz.ntmps97;go_wp2_with fail;refine(Q.o _).mono ?_;rintro N a1 ⟨rfl,L⟩;obtain rfl:b=a1:=L.symm;clear L;go_wp2
 go_region_held3 (fun _=>True) (trivial)
  ((first
   |(go_at_call 97;refine(R.o _ (by repeat' (first|(with_reducible exact VM _ _)|(with_reducible refine AN ?_)))).mono ?_;rintro N a2 J;unfold zj at J;obtain⟨t,rfl,H,r⟩:=J;have w:Hd (BB b a2):=⟨r.os,r.tape,r.output,r.size,r.block⟩)
   |(go_at_call 87;refine(T.o _ (by exact w.o)).mono ?_;rintro N v ⟨rfl,x⟩;rw[U.o];have u:Hd (BB b v):=w.o.trans (x.mono w.o.size);have B:Hd (v.ownsRow b.heap.size 36 8 (.slice t.a t.n t.cap) d.length (qj d)):=lj H x)
   |(refine cq (by rfl) (.tmp 19) (.tmp 24) 41 (by rfl) b.heap.size 36 _ 8 8 Tryz.underlying41 Tryz.infoDigP rfl (by decide) (.slice t.a t.n t.cap) d.length (qj d) (by rfl) (B.o.alloc (.cells (cO h i j k l m n o) 36)) ⟨v.heap.size,0,none⟩ 1 1 ([h,i,j,k,l,m,n,o].map fj) (by rfl) rfl (jj.alloc_new v ([h,i,j,k,l,m,n,o].map fj) 36) (gx _) (by have:=A.o;unfold maxLen;omega) (by have:=A.o;omega) (by have:=u.o.size;simp;omega) ?_;intro C M D O I G Y)
   |fail))
 all_goals
  have S:Hd (O.ownsRow b.heap.size 36 8 (.slice C M D) (d++[[h,i,j,k,l,m,n,o]]).length (qj (d++[[h,i,j,k,l,m,n,o]]))):=by
   rw[Ix,XM];exact I
  have P:Hd (BB b O):=(u.o.alloc u.o.size _).trans (G.below (by have:=u.o.size;simp;omega) (fun a0 Z=>(B.o.lt a0 Z).1));clear I G Y H r x;go_wp2;go_returns;exact⟨⟨C,M,D⟩,rfl,S.o,P.o⟩
theorem wM(a:List (List UInt8))(q s g:Nat)(c:Nat)(f:List (List UInt8))(b:World)(W:2<=a.length)(a7:a.length<=40)(aa:a.length<=g)(a8:g<=9223372036854775807)(L:tq b (some ⟨q,s,none⟩) a)(ab:gj a.length<=c)(ac:c<a.length)(X:f.length<=100)
  (G:∀d,BB b d->CP 97 #[.int .i64 ((c - gj a.length:Nat):Int),.slice (some ⟨q,s+gj a.length*8,none⟩) (a.length - gj a.length) (g - gj a.length)] d (zj d f)):
  CP 97 #[.int .i64 c,.slice (some ⟨q,s,none⟩) a.length g] b (zj b (f++[Uj 42 (a.take (gj a.length))])):=by
 have af:=Rq a.length W;obtain⟨h,i,j,k,l,m,n,o,z⟩:=uj (Uj 42 (a.take (gj a.length))) (Wj 41 _);have R:Hd (∀b:World,CP 122 #[.int .i64 (a.length:Int)] b fun c A=>c=.returned (.int .i64 (gj a.length:Int))/\A=b):=fun b=>My _ _ (by omega);have U:Hd (∀d,BB b d->CP 87 #[.slice (some ⟨q,s,none⟩) (gj a.length) g] d fun c A=>c=.returned (dV [h,i,j,k,l,m,n,o])/\Below d.heap.size d A):=fun d Y=>by
  rw[<-z];have F:=Kk 42 (a.take (gj a.length)) (some ⟨q,s,none⟩) g d (by simp;omega) (by simp;omega) (by omega) ((L.below Y).take _ (by omega));rw[aN,LN (by omega)]at F;exact F
 rw[z];have S:Hd (∀d,BB b d->CP 97 #[.int .i64 ((c - gj a.length:Nat):Int),.slice (some ⟨q,s+gj a.length*8,none⟩) (a.length - gj a.length) (g - gj a.length)] d (zj d f)):=G;have V:Hd (dV [h,i,j,k,l,m,n,o]=.agg (cO h i j k l m n o)):=rfl;have B:Hd (f.length<=100):=X;generalize gj a.length=e at*;clear G z L;generalize a.length=p at*;have ar:(p:Int)<=40:=by omega
 have ap:(2:Int)<=p:=by omega
 have ah:(1:Int)<=e:=by omega
 have al:(e:Int)<p:=by omega
 have a9:(g:Int)<=9223372036854775807:=by omega
 have au:(p:Int)<=g:=by omega
 have ai:¬g=e:=by omega
 have ag:(0:Int)<=e:=by omega
 have ak:(e:Int)<=g:=by omega
 have am:(e:Int)<=p:=by omega
 have an:(0:Int)<=p:=by omega
 have ax:IntKind.i64.wrap (e:Int)=(e:Int):=Go.IntWalk.i64_in _ ⟨by omega,by omega⟩;have ad:¬(c:Int)<e:=by omega
 have a0:(c:Int) - e=((c - e:Nat):Int):=by omega
 generalize a2:(c - e:Nat)=x at*;have a3:IntKind.i64.wrap (x:Int)=(x:Int):=Go.IntWalk.i64_in _ ⟨by omega,by omega⟩;have av:IntKind.i64.wrap ((c:Int) - (e:Int))=(x:Int):=by rw[a0];exact a3
 clear a2;have ao:((p:Int)==1)=false:=by rw[tN];simp only[ne_eq,beq_iff_eq];omega
 have ae:(c:Int)<=40:=by omega
 go_enter Tryz.func97,Tryz.ntmps97;go_wp2_with fail;refine(R.o _).mono ?_;rintro O a5 ⟨rfl,M⟩;obtain rfl:b=a5:=M.symm;clear M;go_wp2
 go_region_held3 (fun _=>True) (trivial)
  ((first
   |(go_at_call 97;refine(S.o _ (by repeat' (first|(with_reducible exact VM _ _)|(with_reducible refine AN ?_)))).mono ?_;rintro O a6 K;unfold zj at K;obtain⟨t,rfl,I,r⟩:=K;have w:Hd (BB b a6):=⟨r.os,r.tape,r.output,r.size,r.block⟩)
   |(go_at_call 87;refine(U.o _ (by exact w.o)).mono ?_;rintro O v ⟨rfl,y⟩;rw[V.o];have u:Hd (BB b v):=w.o.trans (y.mono w.o.size);have C:Hd (v.ownsRow b.heap.size 36 8 (.slice t.a t.n t.cap) f.length (qj f)):=lj I y)
   |(refine cq (by rfl) (.tmp 32) (.tmp 37) 41 (by rfl) b.heap.size 36 _ 8 8 Tryz.underlying41 Tryz.infoDigP rfl (by decide) (.slice t.a t.n t.cap) f.length (qj f) (by rfl) (C.o.alloc (.cells (cO h i j k l m n o) 36)) ⟨v.heap.size,0,none⟩ 1 1 ([h,i,j,k,l,m,n,o].map fj) (by rfl) rfl (jj.alloc_new v ([h,i,j,k,l,m,n,o].map fj) 36) (gx _) (by have:=B.o;unfold maxLen;omega) (by have:=B.o;omega) (by have:=u.o.size;simp;omega) ?_;intro D N E P J H Z)
   |fail))
 all_goals
  have T:Hd (P.ownsRow b.heap.size 36 8 (.slice D N E) (f++[[h,i,j,k,l,m,n,o]]).length (qj (f++[[h,i,j,k,l,m,n,o]]))):=by
   rw[Ix,XM];exact J
  have Q:Hd (BB b P):=(u.o.alloc u.o.size _).trans (H.below (by have:=u.o.size;simp;omega) (fun a4 a1=>(C.o.lt a4 a1).1));clear J H Z I r y;go_wp2;go_returns;exact⟨⟨D,N,E⟩,rfl,T.o,Q.o⟩
theorem xM(a:List (List UInt8))(q s e:Nat)(f:Nat)(d:List (List UInt8))(b:World)(V:2<=a.length)(a3:a.length<=40)(a6:a.length<=e)(a4:e<=9223372036854775807)(K:tq b (some ⟨q,s,none⟩) a)(a7:f<gj a.length)(W:d.length<=100)
  (F:∀c,BB b c->CP 95 #[.slice (some ⟨q,s,none⟩) (gj a.length) e,.int .i64 f] c (zj c d)):
  CP 95 #[.slice (some ⟨q,s,none⟩) a.length e,.int .i64 f] b (zj b (d++[Uj 42 (a.drop (gj a.length))])):=by
 have a9:=Rq a.length V;obtain⟨h,i,j,k,l,m,n,o,y⟩:=uj (Uj 42 (a.drop (gj a.length))) (Wj 41 _);have Q:Hd (∀b:World,CP 128 #[.int .i64 (a.length:Int)] b fun f z=>f=.returned (.int .i64 (gj a.length:Int))/\z=b):=fun b=>Py _ _ (by omega) (by omega);have T:Hd (∀c,BB b c->CP 119 #[.slice (some ⟨q,s+gj a.length*8,none⟩) (a.length - gj a.length) (e - gj a.length)] c fun f z=>f=.returned (dV [h,i,j,k,l,m,n,o])/\Below c.heap.size c z):=fun c X=>by
  rw[<-y];have E:=dy 42 (a.drop (gj a.length)) (some ⟨q,s+gj a.length*8,none⟩) (e - gj a.length) c (by simp;omega) (by simp;omega) (by simp;omega) (by omega) ((K.below X).drop _ (by omega));rw[oN]at E;exact E
 rw[y];have R:Hd (∀c,BB b c->CP 95 #[.slice (some ⟨q,s,none⟩) (gj a.length) e,.int .i64 f] c (zj c d)):=F;have U:Hd (dV [h,i,j,k,l,m,n,o]=.agg (cO h i j k l m n o)):=rfl;have A:Hd (d.length<=100):=W;generalize gj a.length=g at*;clear F y K;generalize a.length=p at*;have ak:(p:Int)<=40:=by omega
 have ai:(2:Int)<=p:=by omega
 have ab:(1:Int)<=g:=by omega
 have ae:(g:Int)<p:=by omega
 have a5:(e:Int)<=9223372036854775807:=by omega
 have al:(p:Int)<=e:=by omega
 have ac:¬e=g:=by omega
 have aa:(0:Int)<=g:=by omega
 have ad:(g:Int)<=e:=by omega
 have af:(g:Int)<=p:=by omega
 have ag:(0:Int)<=p:=by omega
 have am:IntKind.i64.wrap (g:Int)=(g:Int):=Go.IntWalk.i64_in _ ⟨by omega,by omega⟩;have a8:(f:Int)<g:=by omega
 have ah:((p:Int)==1)=false:=by rw[tN];simp only[ne_eq,beq_iff_eq];omega
 go_enter Tryz.func95,Tryz.ntmps95;go_wp2_with fail;refine(Q.o _).mono ?_;rintro N a1 ⟨rfl,L⟩;obtain rfl:b=a1:=L.symm;clear L;go_wp2
 go_region_held3 (fun _=>True) (trivial)
  ((first
   |(go_at_call 95;refine(R.o _ (by repeat' (first|(with_reducible exact VM _ _)|(with_reducible refine AN ?_)))).mono ?_;rintro N a2 J;unfold zj at J;obtain⟨t,rfl,H,r⟩:=J;have w:Hd (BB b a2):=⟨r.os,r.tape,r.output,r.size,r.block⟩)
   |(go_at_call 119;refine(T.o _ (by exact w.o)).mono ?_;rintro N v ⟨rfl,x⟩;rw[U.o];have u:Hd (BB b v):=w.o.trans (x.mono w.o.size);have B:Hd (v.ownsRow b.heap.size 36 8 (.slice t.a t.n t.cap) d.length (qj d)):=lj H x)
   |(refine cq (by rfl) (.tmp 19) (.tmp 24) 41 (by rfl) b.heap.size 36 _ 8 8 Tryz.underlying41 Tryz.infoDigP rfl (by decide) (.slice t.a t.n t.cap) d.length (qj d) (by rfl) (B.o.alloc (.cells (cO h i j k l m n o) 36)) ⟨v.heap.size,0,none⟩ 1 1 ([h,i,j,k,l,m,n,o].map fj) (by rfl) rfl (jj.alloc_new v ([h,i,j,k,l,m,n,o].map fj) 36) (gx _) (by have:=A.o;unfold maxLen;omega) (by have:=A.o;omega) (by have:=u.o.size;simp;omega) ?_;intro C M D O I G Y)
   |fail))
 all_goals
  have S:Hd (O.ownsRow b.heap.size 36 8 (.slice C M D) (d++[[h,i,j,k,l,m,n,o]]).length (qj (d++[[h,i,j,k,l,m,n,o]]))):=by
   rw[Ix,XM];exact I
  have P:Hd (BB b O):=(u.o.alloc u.o.size _).trans (G.below (by have:=u.o.size;simp;omega) (fun a0 Z=>(B.o.lt a0 Z).1));clear I G Y H r x;go_wp2;go_returns;exact⟨⟨C,M,D⟩,rfl,S.o,P.o⟩
theorem yM(a:List (List UInt8))(q s g:Nat)(c:Nat)(f:List (List UInt8))(b:World)(W:2<=a.length)(a7:a.length<=40)(aa:a.length<=g)(a8:g<=9223372036854775807)(L:tq b (some ⟨q,s,none⟩) a)(ab:gj a.length<=c)(ac:c<a.length)(X:f.length<=100)
  (G:∀d,BB b d->CP 95 #[.slice (some ⟨q,s+gj a.length*8,none⟩) (a.length - gj a.length) (g - gj a.length),.int .i64 ((c - gj a.length:Nat):Int)] d (zj d f)):
  CP 95 #[.slice (some ⟨q,s,none⟩) a.length g,.int .i64 c] b (zj b (f++[Uj 42 (a.take (gj a.length))])):=by
 have af:=Rq a.length W;obtain⟨h,i,j,k,l,m,n,o,z⟩:=uj (Uj 42 (a.take (gj a.length))) (Wj 41 _);have R:Hd (∀b:World,CP 128 #[.int .i64 (a.length:Int)] b fun c A=>c=.returned (.int .i64 (gj a.length:Int))/\A=b):=fun b=>Py _ _ (by omega) (by omega);have U:Hd (∀d,BB b d->CP 119 #[.slice (some ⟨q,s,none⟩) (gj a.length) g] d fun c A=>c=.returned (dV [h,i,j,k,l,m,n,o])/\Below d.heap.size d A):=fun d Y=>by
  rw[<-z];have F:=dy 42 (a.take (gj a.length)) (some ⟨q,s,none⟩) g d (by simp;omega) (by simp;omega) (by simp;omega) (by omega) ((L.below Y).take _ (by omega));rw[aN,LN (by omega)]at F;exact F
 rw[z];have S:Hd (∀d,BB b d->CP 95 #[.slice (some ⟨q,s+gj a.length*8,none⟩) (a.length - gj a.length) (g - gj a.length),.int .i64 ((c - gj a.length:Nat):Int)] d (zj d f)):=G;have V:Hd (dV [h,i,j,k,l,m,n,o]=.agg (cO h i j k l m n o)):=rfl;have B:Hd (f.length<=100):=X;generalize gj a.length=e at*;clear G z L;generalize a.length=p at*;have ar:(p:Int)<=40:=by omega
 have ap:(2:Int)<=p:=by omega
 have ah:(1:Int)<=e:=by omega
 have al:(e:Int)<p:=by omega
 have a9:(g:Int)<=9223372036854775807:=by omega
 have au:(p:Int)<=g:=by omega
 have ai:¬g=e:=by omega
 have ag:(0:Int)<=e:=by omega
 have ak:(e:Int)<=g:=by omega
 have am:(e:Int)<=p:=by omega
 have an:(0:Int)<=p:=by omega
 have ax:IntKind.i64.wrap (e:Int)=(e:Int):=Go.IntWalk.i64_in _ ⟨by omega,by omega⟩;have ad:¬(c:Int)<e:=by omega
 have a0:(c:Int) - e=((c - e:Nat):Int):=by omega
 generalize a2:(c - e:Nat)=x at*;have a3:IntKind.i64.wrap (x:Int)=(x:Int):=Go.IntWalk.i64_in _ ⟨by omega,by omega⟩;have av:IntKind.i64.wrap ((c:Int) - (e:Int))=(x:Int):=by rw[a0];exact a3
 clear a2;have ao:((p:Int)==1)=false:=by rw[tN];simp only[ne_eq,beq_iff_eq];omega
 have ae:(c:Int)<=40:=by omega
 go_enter Tryz.func95,Tryz.ntmps95;go_wp2_with fail;refine(R.o _).mono ?_;rintro O a5 ⟨rfl,M⟩;obtain rfl:b=a5:=M.symm;clear M;go_wp2
 go_region_held3 (fun _=>True) (trivial)
  ((first
   |(go_at_call 95;refine(S.o _ (by repeat' (first|(with_reducible exact VM _ _)|(with_reducible refine AN ?_)))).mono ?_;rintro O a6 K;unfold zj at K;obtain⟨t,rfl,I,r⟩:=K;have w:Hd (BB b a6):=⟨r.os,r.tape,r.output,r.size,r.block⟩)
   |(go_at_call 119;refine(U.o _ (by exact w.o)).mono ?_;rintro O v ⟨rfl,y⟩;rw[V.o];have u:Hd (BB b v):=w.o.trans (y.mono w.o.size);have C:Hd (v.ownsRow b.heap.size 36 8 (.slice t.a t.n t.cap) f.length (qj f)):=lj I y)
   |(refine cq (by rfl) (.tmp 32) (.tmp 37) 41 (by rfl) b.heap.size 36 _ 8 8 Tryz.underlying41 Tryz.infoDigP rfl (by decide) (.slice t.a t.n t.cap) f.length (qj f) (by rfl) (C.o.alloc (.cells (cO h i j k l m n o) 36)) ⟨v.heap.size,0,none⟩ 1 1 ([h,i,j,k,l,m,n,o].map fj) (by rfl) rfl (jj.alloc_new v ([h,i,j,k,l,m,n,o].map fj) 36) (gx _) (by have:=B.o;unfold maxLen;omega) (by have:=B.o;omega) (by have:=u.o.size;simp;omega) ?_;intro D N E P J H Z)
   |fail))
 all_goals
  have T:Hd (P.ownsRow b.heap.size 36 8 (.slice D N E) (f++[[h,i,j,k,l,m,n,o]]).length (qj (f++[[h,i,j,k,l,m,n,o]]))):=by
   rw[Ix,XM];exact J
  have Q:Hd (BB b P):=(u.o.alloc u.o.size _).trans (H.below (by have:=u.o.size;simp;omega) (fun a4 a1=>(C.o.lt a4 a1).1));clear J H Z I r y;go_wp2;go_returns;exact⟨⟨D,N,E⟩,rfl,T.o,Q.o⟩
end
end Go.Proofs.YtekegfbjbainhaaGreat
