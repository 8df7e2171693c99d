import Derived.Test.YtekegfbjbainhaaGreatKJoin21
import Derived.WalkLawsBesides
set_option maxRecDepth 100000
set_option maxHeartbeats 2000000
set_option linter.unusedVariables false
set_option linter.unusedSimpArgs false
namespace Go.Proofs.YtekegfbjbainhaaGreat
open Go.RowKit
section
theorem pU(j h:Nat)(a:dj)(b:Int)(c:World)(m:c.cell? ⟨j,2,none⟩=some (.slice a.a a.n a.cap))(p:a.n=h)(o:h<=40):
  CP 88 #[.pointer (some ⟨j,0,none⟩),.int .i64 b] c fun i q=>i=.returned (.bool (!az h b))/\q=c:=by
 subst p;have s:(a.n:Int)<=40:=by omega
 have l:Hd (Calls _ _ _ _ _):=Ew j a c m o;by_cases f:b<0
 .have d:Hd ((!az a.n b)=false):=by unfold Hd az;simp[f]
  have n:¬0<=b:=by omega
  go_enter Tryz.func88,Tryz.ntmps88;go_wp2;go_ret;exact⟨by rw[d.o];rfl,rfl⟩
 .have n:0<=b:=by omega
  by_cases r:b<a.n
  .have d:Hd ((!az a.n b)=true):=by unfold Hd az;simp[f];omega
   go_enter Tryz.func88,Tryz.ntmps88;go_wp2_with (go_at_call 94;refine l.o.mono ?_;rintro i k ⟨rfl,e⟩;obtain rfl:c=k:=e.symm;clear e);go_ret;have g:decide (b<(a.n:Int))=true:=by simp;omega
   exact⟨by rw[d.o,<-g];rfl,rfl⟩
  .have d:Hd ((!az a.n b)=false):=by unfold Hd az;simp[f];omega
   go_enter Tryz.func88,Tryz.ntmps88;go_wp2_with (go_at_call 94;refine l.o.mono ?_;rintro i k ⟨rfl,e⟩;obtain rfl:c=k:=e.symm;clear e);go_ret;have g:decide (b<(a.n:Int))=false:=by simp;omega
   exact⟨by rw[d.o,<-g];rfl,rfl⟩
theorem PZ(h i:dj)(d e:List UInt8)(c:World)(n:BS c h d)(o:BS c i e)(w:d.length<=maxLen)(y:e.length<=maxLen):
  CP 91 #[h.val,i.val] c fun z A=>z=.returned (.bool (Qx d e))/\A=c:=by
 have j:Hd (Calls _ _ _ _ _):=Mv h.a h.n h.cap c (by rw[n.n];exact w);have k:Hd (Calls _ _ _ _ _):=Mv i.a i.n i.cap c (by rw[o.n];exact y);have v:(decide (1<=h.n)&&decide (h.n<=12))=Zj d:=by rw[n.n];rfl
 have x:(decide (1<=i.n)&&decide (i.n<=12))=Zj e:=by rw[o.n];rfl
 rw[v]at j;rw[x]at k;have p:Hd (Calls _ _ _ _ _):=Hv h i d e c n o;have l:=Tx d e;have B:=aw d e;generalize Lib.compareBytes d e=r at*;have f:Hd (Qx d e=(Zj d&&Zj e&&Op.bytesLess d e)):=rfl;clear v x n o w y;unfold dj.val at p⊢;cases t:Zj d with
 |false=>
  rw[t]at j f;clear l;go_enter Tryz.func91,Tryz.ntmps91;go_wp2_with fail;refine j.o.mono ?_;rintro g b ⟨rfl,a⟩;obtain rfl:c=b:=a.symm;clear a;go_wp2;go_ret;exact⟨by rw[f.o];rfl,rfl⟩
 |true=>
  rw[t]at j f;cases u:Zj e with
  |false=>
   rw[u]at k f;clear l;go_enter Tryz.func91,Tryz.ntmps91;go_wp2_with fail;refine j.o.mono ?_;rintro g b ⟨rfl,a⟩;obtain rfl:c=b:=a.symm;clear a;go_wp2_with fail;refine k.o.mono ?_;rintro g b ⟨rfl,a⟩;obtain rfl:c=b:=a.symm;clear a;go_wp2;go_ret;exact⟨by rw[f.o];rfl,rfl⟩
  |true=>
   rw[u]at k f;have m:Hd (Qx d e=decide (r<0)):=by
    unfold Hd;rw[f.o,caj];simp[l]
   clear l f t u;by_cases s:r<0
   .have q:Hd (Qx d e=true):=by unfold Hd;rw[m.o];simp[s]
    clear m;go_enter Tryz.func91,Tryz.ntmps91;go_wp2_with fail;refine j.o.mono ?_;rintro g b ⟨rfl,a⟩;obtain rfl:c=b:=a.symm;clear a;go_wp2_with fail;refine k.o.mono ?_;rintro g b ⟨rfl,a⟩;obtain rfl:c=b:=a.symm;clear a;go_wp2_with fail;refine p.o.mono ?_;rintro g b ⟨rfl,a⟩;obtain rfl:c=b:=a.symm;clear a;go_wp2;go_ret;exact⟨by rw[q.o];rfl,rfl⟩
   .have q:Hd (Qx d e=false):=by unfold Hd;rw[m.o];simp[s]
    clear m;go_enter Tryz.func91,Tryz.ntmps91;go_wp2_with fail;refine j.o.mono ?_;rintro g b ⟨rfl,a⟩;obtain rfl:c=b:=a.symm;clear a;go_wp2_with fail;refine k.o.mono ?_;rintro g b ⟨rfl,a⟩;obtain rfl:c=b:=a.symm;clear a;go_wp2_with fail;refine p.o.mono ?_;rintro g b ⟨rfl,a⟩;obtain rfl:c=b:=a.symm;clear a;go_wp2;go_ret;exact⟨by rw[q.o,<-show decide (r<0)=false by simpa using s];rfl,rfl⟩
theorem gy.tree{n:World}{w:Nat}{v:Option Nat}{p:List Tj}{c:List (List (List Nd))}{f:List Nd}{b:List (List ej)}(e:gy n w v p c f b)(a:Nat)(i:a<f.length):
  ∃(d:List (List Nd)) (g:Nat),yz (Rj (qy b a)) d/\d.length=g+1/\d[g]? =some [f[a]]/\Qv (qy b a)/\(∀j∈d,∀k∈j,uq n k):=by
 have l:a<c.length:=by rw[e.tl];exact i
 have m:a<b.length:=by rw[e.pl];exact i
 have o:qy b a=b[a]:=by
  unfold qy;simp[m]
 obtain⟨q,⟨g,r,s⟩,h⟩:=e.rep a c[a] b[a] f[a] (UM l) (UM m) (UM i);rw[o];exact⟨c[a],g,q,r,s,⟨h.rise,h.ok,h.len⟩,fun j t k u=>(e.good c[a] (bN l) j t k u).1⟩
theorem EG(u Q:Nat)(T g:dj)(M:Option Nat)(D:List Tj)(a3:List Pj)(a0:List ej)(k:List Nd)(R:List (List (List Nd)))(c:List (List ej))(e:Int)(j:dj)(a:List UInt8)(b:World)(q:Az b u Q T g M D a3 a0 k)(r:gy b u M D R k c)(U:k.length<=40)(n:BS b j a)(X:a.length<=maxLen):
  CP 46 #[.pointer (some ⟨u,0,none⟩),.int .i64 e,j.val] b fun l O=>∃N:dj,l=.returned (.tuple #[N.val,.int .i64 (xx c.length e a:Int)])/\rj O b.heap.size N.val (jv c e a)/\Below b.heap.size b O:=by
 obtain⟨z,y⟩:=jj.ofOwn (s:=g) q.own;have C:b.cell? ⟨u,2,none⟩=some (.slice g.a g.n g.cap):=aj.cell q.row 2 (by simp);have m:Hd (Calls _ _ _ _ _):=pU u k.length g e b C y U;have p:Hd (Calls _ _ _ _ _):=Mv j.a j.n j.cap b (by rw[n.n];exact X);have w:(decide (1<=j.n)&&decide (j.n<=12))=Zj a:=by rw[n.n];rfl
 rw[w]at p;have x:=r.pl;rw[<-x]at m;have Z:(g.n:Int)<=40:=by omega
 cases f:az c.length e with
 |true=>
  have h:Hd (xx c.length e a=4/\jv c e a=[]):=by
   have:xx c.length e a=4:=by unfold xx;rw[if_pos f]
   exact⟨this,by unfold jv;rw[this];rfl⟩
  rw[f]at m;clear z y w q r n x f;unfold dj.val;go_enter Tryz.func46,Tryz.ntmps46;go_wp2_with (go_at_call 88;refine m.o.mono ?_;rintro l v ⟨rfl,i⟩;obtain rfl:b=v:=i.symm;clear i)
  go_ret2
  exact⟨⟨none,0,0⟩,by rw[h.o.1];rfl,by rw[h.o.2];exact iN _ _ _ _,VM _ _⟩
 |false=>
  rw[f]at m;cases o:Zj a with
  |false=>
   have h:Hd (xx c.length e a=1/\jv c e a=[]):=by
    have:xx c.length e a=1:=by unfold xx;rw[if_neg (by rw[f];decide),if_pos o]
    exact⟨this,by unfold jv;rw[this];rfl⟩
   rw[o]at p;clear z y w q r n x f o;unfold dj.val;go_enter Tryz.func46,Tryz.ntmps46;go_wp2_with (first|(go_at_call 88;refine m.o.mono ?_;rintro l v ⟨rfl,i⟩;obtain rfl:b=v:=i.symm;clear i)|(go_at_call 27;refine p.o.mono ?_;rintro l A ⟨rfl,t⟩;obtain rfl:b=A:=t.symm;clear t))
   go_ret2
   exact⟨⟨none,0,0⟩,by rw[h.o.1];rfl,by rw[h.o.2];exact iN _ _ _ _,VM _ _⟩
  |true=>
   obtain⟨d,rfl,a7⟩:=pQ f;have K:d<k.length:=by omega
   obtain⟨P,a4,E,F,G,H,I⟩:=r.tree d K;have B:Hd (Calls _ _ _ _ _):=zG _ H P E a4 k[d] F G j a b I n;have h:Hd (xx c.length (d:Int) a=0/\jv c (d:Int) a=Dy (qy c d) a a):=by
    have:xx c.length (d:Int) a=0:=by unfold xx;rw[if_neg (by rw[f];decide),if_neg (by rw[o];decide)]
    exact⟨this,by unfold jv;rw[this];rfl⟩
   obtain⟨S,a1,L,a6,J⟩:=z d (by simpa using K);have a5:b.cell? ⟨S,a1+d,none⟩=some (.pointer (some ⟨k[d].b,0,none⟩)):=by rw[J];simp[Cj]
   have W:(d:Int)<g.n:=by omega
   rw[o]at p;generalize k[d]=a8 at*;obtain⟨a9,ab,aa⟩:=g;simp only at L C W Z;subst L;clear z y w q r n x f o E F G H I J;unfold dj.val at B⊢;go_enter Tryz.func46,Tryz.ntmps46;go_wp2_with (first|(go_at_call 88;refine m.o.mono ?_;rintro l v ⟨rfl,i⟩;obtain rfl:b=v:=i.symm;clear i)|(go_at_call 27;refine p.o.mono ?_;rintro l A ⟨rfl,t⟩;obtain rfl:b=A:=t.symm;clear t)|(go_at_call 89;refine B.o.mono ?_;rintro l ac ⟨a2,rfl,Y,V⟩))
   go_ret2
   exact⟨a2,by rw[h.o.1];rfl,by rw[h.o.2];exact Y,V⟩
theorem FG(v S:Nat)(V h:dj)(O:Option Nat)(F:List Tj)(a6:List Pj)(a3:List ej)(k:List Nd)(T:List (List (List Nd)))(d:List (List ej))(f:Int)(A B:dj)(b c:List UInt8)(a:World)(p:Az a v S V h O F a6 a3 k)(t:gy a v O F T k d)(W:k.length<=40)(q:BS a A b)(r:BS a B c)(Y:b.length<=maxLen)(a2:c.length<=maxLen):
  CP 48 #[.pointer (some ⟨v,0,none⟩),.int .i64 f,A.val,B.val] a fun l Q=>∃P:dj,l=.returned (.tuple #[P.val,.int .i64 (yx d.length f b c:Int)])/\rj Q a.heap.size P.val (Xz d f b c)/\Below a.heap.size a Q:=by
 obtain⟨z,y⟩:=jj.ofOwn (s:=h) p.own;have E:a.cell? ⟨v,2,none⟩=some (.slice h.a h.n h.cap):=aj.cell p.row 2 (by simp);have m:Hd (Calls _ _ _ _ _):=pU v k.length h f a E y W;have n:Hd (Calls _ _ _ _ _):=PZ A B b c a q r Y a2;have x:=t.pl;rw[<-x]at m;have a1:(h.n:Int)<=40:=by omega
 cases g:az d.length f with
 |true=>
  have i:Hd (yx d.length f b c=4/\Xz d f b c=[]):=by
   have:yx d.length f b c=4:=by unfold yx;rw[if_pos g]
   exact⟨this,by unfold Xz;rw[this];rfl⟩
  rw[g]at m;clear z y p t q r x g;unfold dj.val;go_enter Tryz.func48,Tryz.ntmps48;go_wp2_with (go_at_call 88;refine m.o.mono ?_;rintro l w ⟨rfl,j⟩;obtain rfl:a=w:=j.symm;clear j)
  go_ret2
  exact⟨⟨none,0,0⟩,by rw[i.o.1];rfl,by rw[i.o.2];exact iN _ _ _ _,VM _ _⟩
 |false=>
  rw[g]at m;cases o:Qx b c with
  |false=>
   have i:Hd (yx d.length f b c=1/\Xz d f b c=[]):=by
    have:yx d.length f b c=1:=by unfold yx;rw[if_neg (by rw[g];decide),if_pos o]
    exact⟨this,by unfold Xz;rw[this];rfl⟩
   rw[o]at n;clear z y p t q r x g o;unfold dj.val at n⊢;go_enter Tryz.func48,Tryz.ntmps48;go_wp2_with (first|(go_at_call 88;refine m.o.mono ?_;rintro l w ⟨rfl,j⟩;obtain rfl:a=w:=j.symm;clear j)|(go_at_call 91;refine n.o.mono ?_;rintro l C ⟨rfl,u⟩;obtain rfl:a=C:=u.symm;clear u))
   go_ret2
   exact⟨⟨none,0,0⟩,by rw[i.o.1];rfl,by rw[i.o.2];exact iN _ _ _ _,VM _ _⟩
  |true=>
   obtain⟨e,rfl,aa⟩:=pQ g;have M:e<k.length:=by omega
   obtain⟨R,a7,G,H,I,J,K⟩:=t.tree e M;have D:Hd (Calls _ _ _ _ _):=OZ _ J R G a7 k[e] H I A B b c a K q r;have i:Hd (yx d.length (e:Int) b c=0/\Xz d (e:Int) b c=Dy (qy d e) b c):=by
    have:yx d.length (e:Int) b c=0:=by unfold yx;rw[if_neg (by rw[g];decide),if_neg (by rw[o];decide)]
    exact⟨this,by unfold Xz;rw[this];rfl⟩
   obtain⟨U,a4,N,a9,L⟩:=z e (by simpa using M);have a8:a.cell? ⟨U,a4+e,none⟩=some (.pointer (some ⟨k[e].b,0,none⟩)):=by rw[L];simp[Cj]
   have Z:(e:Int)<h.n:=by omega
   rw[o]at n;generalize k[e]=ab at*;obtain⟨ac,ae,ad⟩:=h;simp only at N E Z a1;subst N;clear z y p t q r x g o G H I J K L;unfold dj.val at D n⊢;go_enter Tryz.func48,Tryz.ntmps48;go_wp2_with (first|(go_at_call 88;refine m.o.mono ?_;rintro l w ⟨rfl,j⟩;obtain rfl:a=w:=j.symm;clear j)|(go_at_call 91;refine n.o.mono ?_;rintro l C ⟨rfl,u⟩;obtain rfl:a=C:=u.symm;clear u)|(go_at_call 92;refine D.o.mono ?_;rintro l af ⟨a5,rfl,a0,X⟩))
   go_ret2
   exact⟨a5,by rw[i.o.1];rfl,by rw[i.o.2];exact a0,X⟩
end
section
attribute [local go_sem↓] Go.wp_at_zero Go.wp_at_succ
def mz:Ending:=.panicked [{v:=.iface 166 (.agg #[]),recovered:=false}]
theorem Ev(a:World):CP 132 #[.bool true] a fun b c=>b=.returned (.tuple #[])/\c=a:=by
 go_enter Tryz.func132,Tryz.ntmps132;go_wp2;go_returns;exact⟨rfl,rfl⟩
theorem Ay(a:World):CP 132 #[.bool false] a fun b c=>b=mz/\c=a:=by
 go_enter Tryz.func132,Tryz.ntmps132;go_wp2;exact⟨rfl,rfl,rfl⟩
def iz(d:World)(a:Nat->Prop)(b:Nat)(e:List UInt8):Prop:=∃c:dj,aj d b 168 [c.val]/\Cq d a c e/\¬a b
theorem iz.lt{c:World}{d:Nat->Prop}{b:Nat}{e:List UInt8}(a:iz c d b e):b<c.heap.size:=by obtain⟨f,a,_⟩:=a;exact aj.lt a
theorem iz.frame{g h:World}{S b:Nat->Prop}{c:Nat}{f:List UInt8}(a:iz g b c f)(d:bj S g h)(i:¬S c)(j:∀e,b e->¬S e):iz h b c f:=by
 obtain⟨m,a,l,k⟩:=a;exact⟨m,aj.of_block a (d.block _ (aj.lt a) i),l.frame d j,k⟩
theorem iz.below{w w':World}{b:Nat->Prop}{d:Nat}{c:List UInt8}(e:iz w b d c)(f:Below w.heap.size w w'):iz w' b d c:=e.frame (bj.of_below_all (S:=fun _=>False) f) (fun a=>a) (fun _ _ a=>a)
theorem iz.rowNe{e:World}{f:Nat->Prop}{c b:Nat}{j:List UInt8}{d:Nat}{i:List Value}(a:iz e f c j)(g:aj e b d i)(h:d≠168):b≠c:=by
 obtain⟨k,a,_⟩:=a;exact mU g a h
theorem iz.ownNe{e:World}{f:Nat->Prop}{c g b l j:Nat}{d:Value}{m:List Value}{k:List UInt8}(a:iz e f c k)(h:e.ownsRow g b l d j m)(i:b≠168):d.ownBlock≠some c:=by
 obtain⟨n,a,_⟩:=a;exact xj h a i
theorem mX(h:Nat->Prop)(c b:Nat)(g:List UInt8)(d:World)(n:iz d h c g)(v:b<=g.length):
  CP 133 #[.pointer (some ⟨c,0,none⟩),.int .i64 b] d fun e l=>∃r:dj,e=.returned r.val/\bj (fun f=>f=c) d l/\l.heap.size=d.heap.size/\Cq l h r (g.take b)/\r.cap=b/\iz l h c (g.drop b):=by
 obtain⟨a,k,i,u⟩:=n;have H:d.cell? ⟨c,0,none⟩=some (.slice a.a a.n a.cap):=aj.cell k 0 (by simp);have E:=k.frozen 0;have B:=i.bs.n;have G:(b:Int)<=a.n:=by omega
 have F:b<=a.cap:=by have:=i.cap;omega
 have x:Hd ((Tryz.prog.info? 5).map (·.size)=some 1):=by unfold Hd;kernel_rfl
 have y:Hd (aj d c 168 [a.val]):=k;have t:Hd (Cq d h a g):=i;have m:Hd (¬h c):=u;have s:Hd (b<=g.length):=v;have z:b<=a.n:=by omega
 have A:a.n<=a.cap:=i.cap;clear k i u v B;go_enter Tryz.func133,Tryz.ntmps133;go_wp2_with (first
  |(go_at_call 132;refine(Ev _).mono ?_;rintro e D ⟨rfl,w⟩;obtain rfl:d=D:=w.symm;clear w)
  |(refine dw (by rfl) 38 5 (.tmp 25) (.tmp 26) (by rfl) a.a a.n a.cap b 1 (by rfl) (by rfl) Tryz.underlying38 x.o z A ?_))
 go_ret;have o:bj (fun f=>f=c) d (d.setCell ⟨c,0,none⟩ (.slice (Fz a.a a.cap b 1) (a.n - b) (a.cap - b))):=(bj.refl (fun f=>f=c) _).setCell (p:=⟨c,0,none⟩) rfl _;have j:=t.o.take b s.o;have C:Cq d h ⟨a.a,b,b⟩ (g.take b):=⟨⟨j.bs.sl,j.bs.n,fun e=>by have:=j.bs.nil e;have:a.cap=0:=this;show b=0;omega,j.bs.lt⟩,TM _,j.k⟩;refine⟨⟨a.a,b,b⟩,rfl,o,by simp,C.frame o (fun f q e=>m.o (e▸q)),rfl,⟨Fz a.a a.cap b 1,a.n - b,a.cap - b⟩,by have n:=aj.set y.o 0 (dj.val ⟨Fz a.a a.cap b 1,a.n - b,a.cap - b⟩);simpa[dj.val]using n,(t.o.drop b s.o).frame o (fun f q e=>m.o (e▸q)),m.o⟩
theorem NV(j:Nat->Prop)(d c:Nat)(i:List UInt8)(a:World)(k:iz a j d i)(m:¬c<=i.length):
  CP 133 #[.pointer (some ⟨d,0,none⟩),.int .i64 c] a fun e o=>e=mz/\o=a:=by
 obtain⟨b,f,g,l⟩:=k;have r:a.cell? ⟨d,0,none⟩=some (.slice b.a b.n b.cap):=aj.cell f 0 (by simp);have n:=g.bs.n;have q:¬(c:Int)<=b.n:=by omega
 clear f g l m n;go_enter Tryz.func133,Tryz.ntmps133;go_wp2_with (go_at_call 132;refine(Ay _).mono ?_;rintro e p ⟨rfl,h⟩;obtain rfl:a=p:=h.symm;clear h;unfold mz);exact⟨rfl,rfl,rfl⟩
theorem bF(d:Nat->Prop)(a:Nat)(b:UInt8)(e:List UInt8)(c:World)(j:iz c d a (b::e)):
  CP 148 #[.pointer (some ⟨a,0,none⟩)] c fun i h=>i=.returned (.int .i64 (b.toNat:Int))/\bj (fun v=>v=a) c h/\h.heap.size=c.heap.size/\iz h d a e:=by
 have q:Hd (Calls _ _ _ _ _):=mX d a 1 (b::e) c j (by simp);clear j;go_enter Tryz.func148,Tryz.ntmps148;go_wp2_with fail;refine q.o.mono ?_;rintro i o ⟨n,rfl,s,u,g,y,m⟩;obtain⟨r,w,k,x,f⟩:=g.bs.sl 0 (by simp);have l:n.n=1:=by have:=g.bs.n;simpa using this
 have p:Hd (iz o d a e):=m;obtain⟨B,D,C⟩:=n;simp only at k l;subst k;subst l;have A:=b.toNat_lt;have t:=yQ b;simp only[eaj]at f;have z:o.cell? ⟨r,w,none⟩=some (.int .u8 b.toNat):=by rw[f];rfl
 clear f g m;unfold dj.val;go_wp2;go_ret;exact⟨by first|rfl|(simp[t]),s,u,p.o⟩
theorem IG(c:Nat->Prop)(b:Nat)(a:World)(e:iz a c b []):
  CP 148 #[.pointer (some ⟨b,0,none⟩)] a fun d g=>d=mz/\g=a:=by
 have f:Hd (Calls _ _ _ _ _):=NV c b 1 [] a e (by simp);clear e;go_enter Tryz.func148,Tryz.ntmps148;go_wp2_with fail;refine f.o.mono ?_;rintro d h ⟨rfl,rfl⟩;unfold mz;go_wp2;exact⟨rfl,rfl,rfl⟩
def qU(f:World)(b:Nat->Prop)(d:Nat)(g:List UInt8)(i:Option (List UInt8))(c:Ending)(a:World):Prop:=
 bj (fun h=>h=d) f a/\a.heap.size=f.heap.size/\match i with
  |none=>c=mz
  |some j=>∃e:dj,c=.returned e.val/\Cq a b e g/\iz a b d j
theorem jZ(f:Nat->Prop)(d b:Nat)(a:List UInt8)(e:World)(h:iz e f d a):
  CP 133 #[.pointer (some ⟨d,0,none⟩),.int .i64 b] e (qU e f d (oq b (some a)) (mj b (some a))):=by
 by_cases c:b<=a.length
 .refine(mX f d b a e h c).mono ?_;rintro i p ⟨o,rfl,k,n,m,q,l⟩;have j:oq b (some a)=a.take b:=by show(if b<=a.length then a.take b else[])=_;rw[if_pos c]
  have g:mj b (some a)=some (a.drop b):=by show(if b<=a.length then some (a.drop b)else none)=_;rw[if_pos c]
  rw[j,g];exact⟨k,n,o,rfl,m,l⟩
 .refine(NV f d b a e h c).mono ?_;rintro i p ⟨rfl,rfl⟩;have g:mj b (some a)=none:=by show(if b<=a.length then some (a.drop b)else none)=_;rw[if_neg c]
  rw[g];exact⟨bj.refl _ _,rfl,rfl⟩
theorem QJ(e:Nat->Prop)(b:Nat)(a:List UInt8)(c:World)(h:iz c e b a):
  CP 148 #[.pointer (some ⟨b,0,none⟩)] c fun f d=>bj (fun m=>m=b) c d/\d.heap.size=c.heap.size/\match mj 1 (some a)with
   |none=>f=mz
   |some n=>f=.returned (.int .i64 (Fj (some a):Int))/\iz d e b n:=by
 cases a with
 |nil=>
  refine(IG e b c h).mono ?_;rintro f d ⟨rfl,rfl⟩;exact⟨bj.refl _ _,rfl,rfl⟩
 |cons g a=>
  refine(bF e b g a c h).mono ?_;rintro f d ⟨rfl,j,l,k⟩;have i:mj 1 (some (g::a))=some a:=by show(if 1<=(g::a).length then some ((g::a).drop 1)else none)=_;rw[if_pos (by simp)];rfl
  rw[i];exact⟨j,l,rfl,k⟩
theorem kZ(e:Nat->Prop)(d:Nat)(a:List UInt8)(c:World)(s:iz c e d a):
  CP 159 #[.pointer (some ⟨d,0,none⟩)] c (qU c e d (oq (Fj (some a)) (mj 1 (some a))) (mj (Fj (some a)) (mj 1 (some a)))):=by
 have q:Hd (Calls _ _ _ _ _):=QJ e d a c s;clear s;go_enter Tryz.func159,Tryz.ntmps159;go_wp2_with fail;refine q.o.mono ?_;rintro i n ⟨j,k,b⟩;cases f:mj 1 (some a)with
 |none=>
  rw[f]at b;obtain rfl:i=mz:=b;unfold mz;go_wp2;exact⟨rfl,j,k,rfl⟩
 |some m=>
  rw[f]at b;obtain⟨rfl,h⟩:=b;have v:Hd (Calls _ _ _ _ _):=jZ e d (Fj (some a)) m n h;have u:Hd (bj (fun l=>l=d) c n):=j;have w:Hd (n.heap.size=c.heap.size):=k;have o:Hd (mj 1 (some a)=some m):=f;clear q j k h f;generalize Fj (some a)=A at*;go_wp2_with fail;refine v.o.mono ?_;rintro i t ⟨x,z,b⟩;have p:Hd (bj (fun l=>l=d) c t):=u.o.trans x;have r:Hd (t.heap.size=c.heap.size):=by unfold Hd;rw[z];exact w.o
  cases g:mj A (some m)with
  |none=>
   rw[g]at b;obtain rfl:i=mz:=b;unfold mz;go_wp2;refine⟨rfl,p.o,r.o,?_⟩;rw[o.o,g];rfl
  |some C=>
   rw[g]at b;obtain⟨B,rfl,y,h⟩:=b;unfold dj.val;go_wp2;go_ret;refine⟨p.o,r.o,?_⟩;rw[o.o,g];exact⟨B,rfl,y,h⟩
theorem kK(l:Nat->Prop)(h:Nat)(g:List UInt8)(c:World)(m:iz c l h g):
  CP 105 #[.pointer (some ⟨h,0,none⟩)] c fun e p=>p=c/\e=if g=[]then .returned (.tuple #[])else mz:=by
 obtain⟨a,j,k,n⟩:=m;have r:c.cell? ⟨h,0,none⟩=some (.slice a.a a.n a.cap):=aj.cell j 0 (by simp);have f:=k.bs.n;clear j k n;by_cases b:g=[]
 .rw[if_pos b];have o:(a.n:Int)=0:=by rw[f,b];rfl
  have q:a.n=0:=by omega
  clear f b;go_enter Tryz.func105,Tryz.ntmps105;go_wp2_with (go_at_call 132;refine(Ev _).mono ?_;rintro e i ⟨rfl,d⟩;obtain rfl:c=i:=d.symm;clear d);go_returns;exact⟨rfl,rfl⟩
 .rw[if_neg b];have o:((a.n:Int)==0)=false:=by
   have:a.n≠0:=fun e=>b (ZN.1 (by omega));simp;omega
  clear f b;go_enter Tryz.func105,Tryz.ntmps105;go_wp2_with (go_at_call 132;refine(Ay _).mono ?_;rintro e i ⟨rfl,d⟩;obtain rfl:c=i:=d.symm;clear d;unfold mz);exact⟨rfl,rfl,rfl⟩
def Xx(b:Nat)(a:List UInt8):Option ((List UInt8×List UInt8)×List UInt8):=
 match Tv b (some a)with
 |none=>none
 |some c=>if 1<=Fj (some a)/\Fj (some a)<=12/\(b=0->Fj (iv (some a))<=12)then some ((vx (some a),Bx b (some a)),c)else none
structure pJ(lv:Nat)(w:World)(K:Nat->Prop)(x:Pj)(key more:List UInt8):Prop where
 d8:x.d.length=8
 key:Cq w K x.k key
 low:lv=0->Cq w K x.v more/\x.d=uz
 high:lv≠0->x.v=⟨none,0,0⟩/\x.d=more
def JM(l:World)(b:Nat->Prop)(d h:Nat)(j:Option ((List UInt8×List UInt8)×List UInt8))(c:Ending)(a:World):Prop:=
 bj (fun f=>f=d) l a/\match j with
  |none=>c=mz
  |some ((g,i),k)=>∃e:Pj,c=.returned (.agg (qv e).toArray)/\pJ h a b e g i/\iz a b d k
def sy:List Value:=[.slice none 0 0,.slice none 0 0,.int .u8 0,.int .u8 0,.int .u8 0,.int .u8 0,.int .u8 0,.int .u8 0,.int .u8 0,.int .u8 0]
theorem lK(b:World)(a:Option Addr)(c:Nat):(Instr.arrayAt 36 (.slice a 8 c)).run Tryz.prog b=.ok (.pointer a) b:=by
 simp[Instr.arrayAt,run_underlying Tryz.underlying36]
theorem JG{b d:World}{f:Nat->Prop}{c:Nat}{h:List UInt8}{x:Pj}(p:aj d b.heap.size 74 sy)(i:bj (fun a=>a=c) b d)(l:iz d f c h)(q:c<b.heap.size)(j:∀a,f a->a<b.heap.size)(m:x.d.length=8)(e:World)(o:aj e b.heap.size 74 (qv x))(g:bj (fun a=>a=b.heap.size) d e):
  bj (fun a=>a=c) b e/\iz e f c h:=⟨i.inside g (fun x m n=>by omega),l.frame g (by omega) (fun a k=>by have:=j a k;omega)⟩
theorem cF(i:Nat->Prop)(m z:Nat)(d:List UInt8)(h:World)(aE:iz h i m d)(br:∀e,i e->e<h.heap.size)(cf:z<=6):
  CP 149 #[.pointer (some ⟨m,0,none⟩),.int .i64 z] h (JM h i m z (Xx z d)):=by
 have aI:Below h.heap.size h (h.alloc (.cells sy.toArray 74)):=tO;have am:Hd (Calls _ _ _ _ _):=kZ i m d _ (aE.below aI);have ap:Hd (bj (fun e=>e=m) h (h.alloc (.cells sy.toArray 74))):=bj.of_below_all aI;have af:Hd (aj (h.alloc (.cells sy.toArray 74)) h.heap.size 74 sy):=aj.new h _ _;have V:Hd (∀e,i e->e<h.heap.size):=br;have bw:=aE.lt;clear aI aE br;unfold sy at am ap af;go_enter Tryz.func149,Tryz.ntmps149;go_wp2_with fail;refine am.o.mono ?_;rintro f A ⟨aP,c7,B⟩;have ar:Hd (bj (fun e=>e=m) h A):=ap.o.trans aP;have ag:Hd (aj A h.heap.size 74 sy):=aj.of_block af.o (aP.block _ af.o.lt (by omega));have ao:Hd (iv (some d)=mj (Fj (some d)) (mj 1 (some d))):=rfl;have b9:Hd (vx (some d)=oq (Fj (some d)) (mj 1 (some d))):=rfl;cases Z:mj (Fj (some d)) (mj 1 (some d))with
 |none=>
  rw[Z]at B;obtain rfl:f=mz:=B;have C:Hd (Xx z d=none):=by
   unfold Hd Xx;have:Tv z (some d)=none:=by unfold Tv;rw[ao.o,Z];split<;>rfl
   rw[this]
  unfold mz;go_wp2;refine⟨rfl,ar.o,?_⟩;rw[C.o];rfl
 |some y=>
  rw[Z]at B;obtain⟨a,rfl,aT,bv⟩:=B;have bu:=ky Z;have au:Hd (a.n=Fj (some d)):=by unfold Hd;rw[aT.bs.n,bu]
  have W:Hd (iv (some d)=some y):=by unfold Hd;rw[ao.o,Z]
  have ch:=zy (some d);have bc:Hd (Cq A i a (vx (some d))):=by unfold Hd;rw[b9.o];exact aT
  have ba:Hd (iz A i m y):=bv;have U:Hd (∀l,CP 27 #[.slice a.a a.n a.cap] l fun f b6=>f=.returned (.bool (decide (1<=a.n)&&decide (a.n<=12)))/\b6=l):=fun l=>Mv a.a a.n a.cap l (by have:=au.o;unfold maxLen;omega);clear aT bv bu Z ao b9 am aP c7 ap af;unfold dj.val;go_upto_region 2 with fail;have a6:Below A.heap.size A (A.alloc (.cells #[.slice a.a a.n a.cap,.slice none 0 0,.int .u8 0,.int .u8 0,.int .u8 0,.int .u8 0,.int .u8 0,.int .u8 0,.int .u8 0,.int .u8 0] 74)):=tO;have a2:Hd (bj (fun e=>e=m) h (A.alloc (.cells #[.slice a.a a.n a.cap,.slice none 0 0,.int .u8 0,.int .u8 0,.int .u8 0,.int .u8 0,.int .u8 0,.int .u8 0,.int .u8 0,.int .u8 0] 74))):=ar.o.trans (bj.of_below_all a6);have X:Hd (aj (A.alloc (.cells #[.slice a.a a.n a.cap,.slice none 0 0,.int .u8 0,.int .u8 0,.int .u8 0,.int .u8 0,.int .u8 0,.int .u8 0,.int .u8 0,.int .u8 0] 74)) h.heap.size 74 sy):=aj.below ag.o ag.o.lt a6;have ah:Hd (Cq (A.alloc (.cells #[.slice a.a a.n a.cap,.slice none 0 0,.int .u8 0,.int .u8 0,.int .u8 0,.int .u8 0,.int .u8 0,.int .u8 0,.int .u8 0,.int .u8 0] 74)) i a (vx (some d))):=bc.o.below a6;have Y:Hd (iz (A.alloc (.cells #[.slice a.a a.n a.cap,.slice none 0 0,.int .u8 0,.int .u8 0,.int .u8 0,.int .u8 0,.int .u8 0,.int .u8 0,.int .u8 0,.int .u8 0] 74)) i m y):=ba.o.below a6;have P:Hd (aj (A.alloc (.cells #[.slice a.a a.n a.cap,.slice none 0 0,.int .u8 0,.int .u8 0,.int .u8 0,.int .u8 0,.int .u8 0,.int .u8 0,.int .u8 0,.int .u8 0] 74)) A.heap.size 74 [.slice a.a a.n a.cap,.slice none 0 0,.int .u8 0,.int .u8 0,.int .u8 0,.int .u8 0,.int .u8 0,.int .u8 0,.int .u8 0,.int .u8 0]):=aj.new A _ _;have cg:h.heap.size<A.heap.size:=ag.o.lt;clear a6 ar ag bc ba;generalize A.alloc (.cells #[.slice a.a a.n a.cap,.slice none 0 0,.int .u8 0,.int .u8 0,.int .u8 0,.int .u8 0,.int .u8 0,.int .u8 0,.int .u8 0,.int .u8 0] 74)=l at*;generalize A.heap.size=b at*;have aB:=P.o.cell 0 (by simp);simp only[cN]at aB;cases S:(decide (1<=a.n)&&decide (a.n<=12))with
  |false=>
   have C:Hd (Xx z d=none):=by
    unfold Hd Xx;have c5:¬(1<=Fj (some d)/\Fj (some d)<=12/\(z=0->Fj (iv (some d))<=12)):=fun⟨ai,ak,_⟩=>by
     rw[<-au.o]at ai ak;have:(decide (1<=a.n)&&decide (a.n<=12))=true:=by simp[ai,ak]
     rw[this]at S;cases S
    cases Tv z (some d)with
    |none=>rfl
    |some O=>simp only[if_neg c5]
   rw[S]at U;go_wp2_with (first
    |(go_at_call 27;refine(U.o _).mono ?_;rintro f I ⟨rfl,w⟩;obtain rfl:l=I:=w.symm;clear w)
    |(go_at_call 132;refine(Ay _).mono ?_;rintro f I ⟨rfl,w⟩;obtain rfl:l=I:=w.symm;clear w;unfold mz))
   refine⟨rfl,a2.o,?_⟩;rw[C.o];rfl
  |true=>
   rw[S]at U;have ae:Hd (1<=Fj (some d)/\Fj (some d)<=12):=by
    unfold Hd;rw[<-au.o];simp only[Daj,decide_eq_true_eq]at S;exact S
   clear S;by_cases a7:z=0
   .subst a7;have b8:Hd (Calls _ _ _ _ _):=kZ i m y l Y.o;go_wp2_with (first
     |(go_at_call 27;refine(U.o _).mono ?_;rintro f I ⟨rfl,w⟩;obtain rfl:l=I:=w.symm;clear w)
     |(go_at_call 132;refine(Ev _).mono ?_;rintro f I ⟨rfl,w⟩;obtain rfl:l=I:=w.symm;clear w))
    refine b8.o.mono ?_;rintro f g ⟨F,b3,B⟩;have Q:Hd (bj (fun e=>e=m) h g):=a2.o.trans F;have R:Hd (aj g h.heap.size 74 sy):=aj.of_block X.o (F.block _ X.o.lt (by omega));have j:Hd (aj g b 74 [.slice a.a a.n a.cap,.slice none 0 0,.int .u8 0,.int .u8 0,.int .u8 0,.int .u8 0,.int .u8 0,.int .u8 0,.int .u8 0,.int .u8 0]):=aj.of_block P.o (F.block _ P.o.lt (by omega));have a4:Hd (Cq g i a (vx (some d))):=ah.o.frame F (fun e G f=>by subst f;obtain⟨_,_,_,aS⟩:=Y.o;exact aS G);have a1:Hd (Tv 0 (some d)=mj (Fj (some y)) (mj 1 (some y))):=by unfold Hd Tv;rw[if_pos rfl,W.o]
    have an:Hd (Bx 0 (some d)=oq (Fj (some y)) (mj 1 (some y))):=by unfold Hd Bx;rw[if_pos rfl,W.o]
    have ci:=zy (some y);cases D:mj (Fj (some y)) (mj 1 (some y))with
    |none=>
     rw[D]at B;obtain rfl:f=mz:=B;have C:Hd (Xx 0 d=none):=by unfold Hd Xx;rw[a1.o,D]
     unfold mz;go_wp2;refine⟨rfl,Q.o,?_⟩;rw[C.o];rfl
    |some O=>
     rw[D]at B;obtain⟨c,rfl,M,a8⟩:=B;have av:Hd (c.n=Fj (some y)):=by unfold Hd;rw[M.bs.n,ky D]
     have be:Hd (Cq g i c (Bx 0 (some d))):=by unfold Hd;rw[an.o];exact M
     have bb:Hd (iz g i m O):=a8;have bf:Hd (Tv 0 (some d)=some O):=by unfold Hd;rw[a1.o,D]
     have E:=(bj.refl (fun e=>e=b) g).setCell (p:=⟨b,1,none⟩) rfl (.slice c.a c.n c.cap);have ab:Hd (aj (g.setCell ⟨b,1,none⟩ (.slice c.a c.n c.cap)) b 74 [.slice a.a a.n a.cap,.slice c.a c.n c.cap,.int .u8 0,.int .u8 0,.int .u8 0,.int .u8 0,.int .u8 0,.int .u8 0,.int .u8 0,.int .u8 0]):=by unfold Hd;simpa using aj.set j.o 1 (.slice c.a c.n c.cap)
     have ac:Hd (bj (fun e=>e=m) h (g.setCell ⟨b,1,none⟩ (.slice c.a c.n c.cap))):=Q.o.inside E (fun ca c6 f=>by omega);have a3:Hd (aj (g.setCell ⟨b,1,none⟩ (.slice c.a c.n c.cap)) h.heap.size 74 sy):=aj.of_block R.o (E.block _ R.o.lt (by omega));have N:∀e,i e->¬e=b:=fun e G f=>by have:=V.o e G;omega
     have aA:Hd (Cq (g.setCell ⟨b,1,none⟩ (.slice c.a c.n c.cap)) i a (vx (some d))):=a4.o.frame E N;have bC:Hd (Cq (g.setCell ⟨b,1,none⟩ (.slice c.a c.n c.cap)) i c (Bx 0 (some d))):=be.o.frame E N;have ax:Hd (iz (g.setCell ⟨b,1,none⟩ (.slice c.a c.n c.cap)) i m O):=bb.o.frame E (by omega) N;have ad:Hd (∀l,CP 78 #[.slice c.a c.n c.cap] l fun f b6=>f=.returned (.bool (decide (c.n<=12)))/\b6=l):=fun l=>Cw c.a c.n c.cap l (by have:=av.o;unfold maxLen;omega);have aC:=j.o.cell 1 (by simp);have cc:=j.o.frozen 1;simp only[cN,gN]at aC;clear E M a8 D a4 be bb Q R P a2 X ah Y F b3 aB b8 N;unfold dj.val;go_upto_region 5 with fail;generalize g.setCell ⟨b,1,none⟩ (.slice c.a c.n c.cap)=a5 at*;have aC:=ab.o.cell 1 (by simp);simp only[cN,gN]at aC;by_cases b0:c.n<=12
     .have C:Hd (Xx 0 d=some ((vx (some d),Bx 0 (some d)),O)):=by
       unfold Hd Xx;rw[bf.o];simp only;rw[if_pos ⟨ae.o.1,ae.o.2,fun _=>by rw[W.o,<-av.o];exact b0⟩]
      have b1:decide (c.n<=12)=true:=by simp[b0]
      rw[b1]at ad;go_wp2_with (first
       |(go_at_call 78;refine(ad.o _).mono ?_;rintro f T ⟨rfl,H⟩;obtain rfl:a5=T:=H.symm;clear H)
       |(go_at_call 132;refine(Ev _).mono ?_;rintro f T ⟨rfl,H⟩;obtain rfl:a5=T:=H.symm;clear H)
       |(refine wpList_load_mid (by rfl) 74 (.tmp 5) (by rfl) b 0 (by rfl) [.slice a.a a.n a.cap,.slice c.a c.n c.cap,.int .u8 0,.int .u8 0,.int .u8 0,.int .u8 0,.int .u8 0,.int .u8 0,.int .u8 0,.int .u8 0] _ ab.o.range Tryz.underlying74 rfl Tryz.sizeEntryB ?_)
       |(refine xv (by rfl) 74 (.tmp 4) (.tmp 27) (by rfl) h.heap.size (by rfl) [.slice a.a a.n a.cap,.slice c.a c.n c.cap,.int .u8 0,.int .u8 0,.int .u8 0,.int .u8 0,.int .u8 0,.int .u8 0,.int .u8 0,.int .u8 0] (by rfl) a3.o rfl Tryz.sizeEntryB (dJ ⟨a,c,uz⟩) ?_;intro b7 a9 a0 c8))
      obtain⟨b4,b5⟩:=JG (x:=⟨a,c,uz⟩) a3.o ac.o ax.o bw V.o rfl b7 a9 a0;refine Cv (k:=4) (cs:=[.slice a.a a.n a.cap,.slice c.a c.n c.cap,.int .u8 0,.int .u8 0,.int .u8 0,.int .u8 0,.int .u8 0,.int .u8 0,.int .u8 0,.int .u8 0]) rfl rfl a9 Tryz.underlying74 rfl Tryz.sizeEntryB rfl ⟨b4,?_⟩;rw[C.o];have al:∀e,i e->¬e=h.heap.size:=fun e G f=>by have:=V.o e G;omega
      exact⟨⟨a,c,uz⟩,rfl,⟨rfl,aA.o.frame a0 al,fun _=>⟨bC.o.frame a0 al,rfl⟩,fun f=>absurd rfl f⟩,b5⟩
     .have C:Hd (Xx 0 d=none):=by
       unfold Hd Xx;rw[bf.o];simp only;rw[if_neg (fun⟨_,_,aD⟩=>b0 (by have:=aD trivial;rw[W.o,<-av.o]at this;exact this))]
      have b1:decide (c.n<=12)=false:=by simp;omega
      rw[b1]at ad;go_wp2_with (first
       |(go_at_call 78;refine(ad.o _).mono ?_;rintro f T ⟨rfl,H⟩;obtain rfl:a5=T:=H.symm;clear H)
       |(go_at_call 132;refine(Ay _).mono ?_;rintro f T ⟨rfl,H⟩;obtain rfl:a5=T:=H.symm;clear H;unfold mz))
      refine⟨rfl,ac.o,?_⟩;rw[C.o];rfl
   .have ce:((z:Int)==0)=false:=by simp;omega
    have bd:Hd (Calls _ _ _ _ _):=jZ i m 8 y l Y.o;go_wp2_with (first
     |(go_at_call 27;refine(U.o _).mono ?_;rintro f I ⟨rfl,w⟩;obtain rfl:l=I:=w.symm;clear w)
     |(go_at_call 132;refine(Ev _).mono ?_;rintro f I ⟨rfl,w⟩;obtain rfl:l=I:=w.symm;clear w))
    refine bd.o.mono ?_;rintro f g ⟨F,b3,B⟩;have Q:Hd (bj (fun e=>e=m) h g):=a2.o.trans F;have R:Hd (aj g h.heap.size 74 sy):=aj.of_block X.o (F.block _ X.o.lt (by omega));have j:Hd (aj g b 74 [.slice a.a a.n a.cap,.slice none 0 0,.int .u8 0,.int .u8 0,.int .u8 0,.int .u8 0,.int .u8 0,.int .u8 0,.int .u8 0,.int .u8 0]):=aj.of_block P.o (F.block _ P.o.lt (by omega));have a4:Hd (Cq g i a (vx (some d))):=ah.o.frame F (fun e G f=>by subst f;obtain⟨_,_,_,aS⟩:=Y.o;exact aS G);have a1:Hd (Tv z (some d)=mj 8 (some y)):=by unfold Hd Tv;rw[if_neg a7,W.o]
    have an:Hd (Bx z (some d)=oq 8 (some y)):=by unfold Hd Bx;rw[if_neg a7,W.o]
    cases D:mj 8 (some y)with
    |none=>
     rw[D]at B;obtain rfl:f=mz:=B;have C:Hd (Xx z d=none):=by unfold Hd Xx;rw[a1.o,D]
     unfold mz;go_wp2;refine⟨rfl,Q.o,?_⟩;rw[C.o];rfl
    |some O=>
     rw[D]at B;obtain⟨c,rfl,M,a8⟩:=B;have C:Hd (Xx z d=some ((vx (some d),Bx z (some d)),O)):=by
      unfold Hd Xx;rw[a1.o,D];simp only;rw[if_pos ⟨ae.o.1,ae.o.2,fun f=>absurd f a7⟩]
     obtain⟨n,o,q,r,s,t,u,v,b2⟩:=uj (oq 8 (some y)) (ky D);rw[b2]at M;have bA:c.n=8:=by rw[M.bs.n];rfl
     obtain⟨J,K,aO,cd,bp⟩:=M.bs.sl 0 (by simp);have L:∀aa (aR:aa<8),g.cell? ⟨J,K+aa,none⟩=some (fj ([n,o,q,r,s,t,u,v][aa]'(by simpa using aR))):=fun aa aR=>by
      obtain⟨cb,ck,bs,_,aD⟩:=M.bs.sl aa (by simpa using aR);rw[aO]at bs;cases bs;exact aD
     have bp:g.cell? ⟨J,K,none⟩=some (.int .u8 n.toNat):=L 0 (by omega);have ai:g.cell? ⟨J,K+1,none⟩=some (.int .u8 o.toNat):=L 1 (by omega);have ak:g.cell? ⟨J,K+2,none⟩=some (.int .u8 q.toNat):=L 2 (by omega);have c0:g.cell? ⟨J,K+3,none⟩=some (.int .u8 r.toNat):=L 3 (by omega);have c1:g.cell? ⟨J,K+4,none⟩=some (.int .u8 s.toNat):=L 4 (by omega);have c2:g.cell? ⟨J,K+5,none⟩=some (.int .u8 t.toNat):=L 5 (by omega);have c3:g.cell? ⟨J,K+6,none⟩=some (.int .u8 u.toNat):=L 6 (by omega);have c4:g.cell? ⟨J,K+7,none⟩=some (.int .u8 v.toNat):=L 7 (by omega);obtain⟨cl,cm,c9⟩:=c;simp only at aO bA;subst aO;subst bA;have cj:=fun l=>lK l (some ⟨J,K,none⟩) c9;have bg:=j.o.cell 2 (by simp);have bD:=j.o.frozen 2;have bh:=j.o.cell 3 (by simp);have bE:=j.o.frozen 3;have bi:=j.o.cell 4 (by simp);have bI:=j.o.frozen 4;have bk:=j.o.cell 5 (by simp);have bO:=j.o.frozen 5;have bl:=j.o.cell 6 (by simp);have bP:=j.o.frozen 6;have bm:=j.o.cell 7 (by simp);have bR:=j.o.frozen 7;have bn:=j.o.cell 8 (by simp);have bS:=j.o.frozen 8;have bo:=j.o.cell 9 (by simp);have bT:=j.o.frozen 9;simp only[cN,gN]at bg bh bi bk bl bm bn bo;have E:=(((((((((bj.refl (fun e=>e=b) g).setCell (p:=⟨b,2,none⟩) rfl (.int .u8 n.toNat)).setCell (p:=⟨b,3,none⟩) rfl (.int .u8 o.toNat)).setCell (p:=⟨b,4,none⟩) rfl (.int .u8 q.toNat)).setCell (p:=⟨b,5,none⟩) rfl (.int .u8 r.toNat)).setCell (p:=⟨b,6,none⟩) rfl (.int .u8 s.toNat)).setCell (p:=⟨b,7,none⟩) rfl (.int .u8 t.toNat)).setCell (p:=⟨b,8,none⟩) rfl (.int .u8 u.toNat)).setCell (p:=⟨b,9,none⟩) rfl (.int .u8 v.toNat));have ab:Hd (aj ((((((((g.setCell ⟨b,2,none⟩ (.int .u8 n.toNat)).setCell ⟨b,3,none⟩ (.int .u8 o.toNat)).setCell ⟨b,4,none⟩ (.int .u8 q.toNat)).setCell ⟨b,5,none⟩ (.int .u8 r.toNat)).setCell ⟨b,6,none⟩ (.int .u8 s.toNat)).setCell ⟨b,7,none⟩ (.int .u8 t.toNat)).setCell ⟨b,8,none⟩ (.int .u8 u.toNat)).setCell ⟨b,9,none⟩ (.int .u8 v.toNat)) b 74 [.slice a.a a.n a.cap,.slice none 0 0,.int .u8 n.toNat,.int .u8 o.toNat,.int .u8 q.toNat,.int .u8 r.toNat,.int .u8 s.toNat,.int .u8 t.toNat,.int .u8 u.toNat,.int .u8 v.toNat]):=by unfold Hd;simpa using(aj.set (aj.set (aj.set (aj.set (aj.set (aj.set (aj.set (aj.set j.o 2 (.int .u8 n.toNat)) 3 (.int .u8 o.toNat)) 4 (.int .u8 q.toNat)) 5 (.int .u8 r.toNat)) 6 (.int .u8 s.toNat)) 7 (.int .u8 t.toNat)) 8 (.int .u8 u.toNat)) 9 (.int .u8 v.toNat))
     have ac:Hd (bj (fun e=>e=m) h ((((((((g.setCell ⟨b,2,none⟩ (.int .u8 n.toNat)).setCell ⟨b,3,none⟩ (.int .u8 o.toNat)).setCell ⟨b,4,none⟩ (.int .u8 q.toNat)).setCell ⟨b,5,none⟩ (.int .u8 r.toNat)).setCell ⟨b,6,none⟩ (.int .u8 s.toNat)).setCell ⟨b,7,none⟩ (.int .u8 t.toNat)).setCell ⟨b,8,none⟩ (.int .u8 u.toNat)).setCell ⟨b,9,none⟩ (.int .u8 v.toNat))):=Q.o.inside E (fun ca c6 f=>by omega);have a3:Hd (aj ((((((((g.setCell ⟨b,2,none⟩ (.int .u8 n.toNat)).setCell ⟨b,3,none⟩ (.int .u8 o.toNat)).setCell ⟨b,4,none⟩ (.int .u8 q.toNat)).setCell ⟨b,5,none⟩ (.int .u8 r.toNat)).setCell ⟨b,6,none⟩ (.int .u8 s.toNat)).setCell ⟨b,7,none⟩ (.int .u8 t.toNat)).setCell ⟨b,8,none⟩ (.int .u8 u.toNat)).setCell ⟨b,9,none⟩ (.int .u8 v.toNat)) h.heap.size 74 sy):=aj.of_block R.o (E.block _ R.o.lt (by omega));have N:∀e,i e->¬e=b:=fun e G f=>by have:=V.o e G;omega
     have aA:Hd (Cq ((((((((g.setCell ⟨b,2,none⟩ (.int .u8 n.toNat)).setCell ⟨b,3,none⟩ (.int .u8 o.toNat)).setCell ⟨b,4,none⟩ (.int .u8 q.toNat)).setCell ⟨b,5,none⟩ (.int .u8 r.toNat)).setCell ⟨b,6,none⟩ (.int .u8 s.toNat)).setCell ⟨b,7,none⟩ (.int .u8 t.toNat)).setCell ⟨b,8,none⟩ (.int .u8 u.toNat)).setCell ⟨b,9,none⟩ (.int .u8 v.toNat)) i a (vx (some d))):=a4.o.frame E N;have ax:Hd (iz ((((((((g.setCell ⟨b,2,none⟩ (.int .u8 n.toNat)).setCell ⟨b,3,none⟩ (.int .u8 o.toNat)).setCell ⟨b,4,none⟩ (.int .u8 q.toNat)).setCell ⟨b,5,none⟩ (.int .u8 r.toNat)).setCell ⟨b,6,none⟩ (.int .u8 s.toNat)).setCell ⟨b,7,none⟩ (.int .u8 t.toNat)).setCell ⟨b,8,none⟩ (.int .u8 u.toNat)).setCell ⟨b,9,none⟩ (.int .u8 v.toNat)) i m O):=a8.frame E (by omega) N;have bB:Hd (Bx z (some d)=[n,o,q,r,s,t,u,v]):=by unfold Hd;rw[an.o,b2]
     clear E M a8 D a4 Q R P a2 X ah Y F b3 aB bd N L b2 U;unfold dj.val;go_upto_region 7 with fail;generalize ((((((((g.setCell ⟨b,2,none⟩ (.int .u8 n.toNat)).setCell ⟨b,3,none⟩ (.int .u8 o.toNat)).setCell ⟨b,4,none⟩ (.int .u8 q.toNat)).setCell ⟨b,5,none⟩ (.int .u8 r.toNat)).setCell ⟨b,6,none⟩ (.int .u8 s.toNat)).setCell ⟨b,7,none⟩ (.int .u8 t.toNat)).setCell ⟨b,8,none⟩ (.int .u8 u.toNat)).setCell ⟨b,9,none⟩ (.int .u8 v.toNat))=a5 at*;clear bg bh bi bk bl bm bn bo bD bE bI bO bP bR bS bT bp ai ak c0 c1 c2 c3 c4;go_wp2_with (first
      |(refine wpList_load_mid (by rfl) 74 (.tmp 5) (by rfl) b 0 (by rfl) [.slice a.a a.n a.cap,.slice none 0 0,.int .u8 n.toNat,.int .u8 o.toNat,.int .u8 q.toNat,.int .u8 r.toNat,.int .u8 s.toNat,.int .u8 t.toNat,.int .u8 u.toNat,.int .u8 v.toNat] _ ab.o.range Tryz.underlying74 rfl Tryz.sizeEntryB ?_)
      |(refine xv (by rfl) 74 (.tmp 4) (.tmp 27) (by rfl) h.heap.size (by rfl) [.slice a.a a.n a.cap,.slice none 0 0,.int .u8 n.toNat,.int .u8 o.toNat,.int .u8 q.toNat,.int .u8 r.toNat,.int .u8 s.toNat,.int .u8 t.toNat,.int .u8 u.toNat,.int .u8 v.toNat] (by rfl) a3.o rfl Tryz.sizeEntryB (dJ ⟨a,⟨none,0,0⟩,[n,o,q,r,s,t,u,v]⟩) ?_;intro b7 a9 a0 c8))
     obtain⟨b4,b5⟩:=JG (x:=⟨a,⟨none,0,0⟩,[n,o,q,r,s,t,u,v]⟩) a3.o ac.o ax.o bw V.o rfl b7 a9 a0;refine Cv (k:=4) (cs:=[.slice a.a a.n a.cap,.slice none 0 0,.int .u8 n.toNat,.int .u8 o.toNat,.int .u8 q.toNat,.int .u8 r.toNat,.int .u8 s.toNat,.int .u8 t.toNat,.int .u8 u.toNat,.int .u8 v.toNat]) rfl rfl a9 Tryz.underlying74 rfl Tryz.sizeEntryB rfl ⟨b4,?_⟩;rw[C.o];have al:∀e,i e->¬e=h.heap.size:=fun e G f=>by have:=V.o e G;omega
     exact⟨⟨a,⟨none,0,0⟩,[n,o,q,r,s,t,u,v]⟩,rfl,⟨rfl,aA.o.frame a0 al,fun f=>absurd f a7,fun _=>⟨rfl,bB.o.symm⟩⟩,b5⟩
end
end Go.Proofs.YtekegfbjbainhaaGreat
