import Derived.Test.YtekegfbjbainhaaGreatKJoin33
import Derived.Deep.RegionHeld3
import Derived.Deep.RegionHeldLaw
import Derived.Deep.DeepCutAuto
set_option maxRecDepth 100000
set_option maxHeartbeats 4000000
set_option linter.unusedVariables false
set_option linter.unusedSimpArgs false
namespace Go.Proofs.YtekegfbjbainhaaGreat
open Go.RowKit
section
theorem xL(b a:Nat):Int.tmod (b:Int) (a:Int)=((b%a:Nat):Int):=by
 rw[Int.tmod_eq_emod_of_nonneg (by omega)];simp
def aq(a:Int)(b:Nat):Nat:=(if a<0 then(-(a+1)).toNat else a.toNat)%b
theorem Yz(b:Int)(a:Nat)(c:1<=a):aq b a<a:=Nat.mod_lt _ (by omega)
theorem Uv(a:Int)(b:Nat)(f:World)(m: -9223372036854775808<=a)(n:a<=9223372036854775807)(o:1<=b)(h:b<=maxLen):
  CP 20 #[.int .i64 a,.int .i64 b] f fun g j=>g=.returned (.int .i64 (aq a b:Int))/\j=f:=by
 unfold maxLen at h;have p:((b:Int)==0)=false:=by simp;omega
 have q:((b:Int)== -1)=false:=by simp
 by_cases e:a<0
 .have k:IntKind.i64.wrap (a+1)=a+1:=by simp only[qaj];omega
  have l:IntKind.i64.wrap (-(a+1))= -(a+1):=by simp only[qaj];omega
  have d:Hd (Int.tmod (-(a+1)) b=(aq a b:Int)):=by
   unfold Hd aq;rw[if_pos e];obtain⟨c,i⟩:∃c:Nat,-(a+1)=(c:Int):=⟨(-(a+1)).toNat,by omega⟩;rw[i];exact xL c b
  go_enter Tryz.func20,Tryz.ntmps20;go_wp2;go_ret;refine⟨?_,rfl⟩;rw[<-d.o];simp[Int.neg_tmod]
 .obtain⟨c,rfl⟩:∃c:Nat,a=(c:Int):=⟨a.toNat,by omega⟩;have d:Hd ((aq (c:Int) b:Int)=((c%b:Nat):Int)):=by
   unfold Hd aq;rw[if_neg e];simp
  go_enter Tryz.func20,Tryz.ntmps20;go_wp2;go_ret;refine⟨?_,rfl⟩;rw[d.o];simp
theorem wF{j:GQ}(c:List Value)(f:Nat)(h:dj)(g:List tj)(b:World)(B:Oz j b f h g)(n:c.length=24)(G:c[0]? =some (.int .i64 2))(E:g.length+1<=17592186044416):
  CP 12 #[.pointer (some ⟨f,0,none⟩),.agg c.toArray] b fun i u=>i=.returned (.bool true)/\(∃e d,Oz j u f e (g++[d])/\(∀a,d.F a->b.heap.size<=a)/\(∀a,e.val.ownBlock=some a->h.val.ownBlock=some a\/b.heap.size<=a))/\bj (fun a=>a=f\/h.val.ownBlock=some a) b u:=by
 obtain⟨d,s,t⟩:=Tryz.rowOp;have F:Hd ((Tryz.prog.info? 43).map (·.size)=some c.length):=by rw[n];exact Tryz.sizeOp
 have y:Hd (Tryz.prog.underlying 43=some d):=s;have z:Hd (d.isRow=true):=t;have I:Hd (c.length=24):=n;have l:Below b.heap.size b (b.alloc (.cells c.toArray 43)):=tO;have A:Hd (Calls _ _ _ _ _):=vF c f h g _ (B.below l) G E;clear s t n;go_enter Tryz.func12,Tryz.ntmps12;go_wp2_with (refine wpList_load_mid (by rfl) 43 (.tmp 3) (by rfl) b.heap.size 0 (by rfl) c d (wy b c 43) y.o z.o F.o ?_);refine A.o.mono ?_;rintro i H ⟨rfl,⟨e,k,p,q,r⟩,C⟩;have D:=l.size;have v:Hd (Oz j H f e (g++[k])):=p;have w:Hd (∀a,k.F a->b.heap.size<=a):=fun a m=>by have:=q a m;omega
 have x:Hd (∀a,e.val.ownBlock=some a->h.val.ownBlock=some a\/b.heap.size<=a):=fun a m=>by
  rcases r a m with o|o
  .exact SM o
  .exact RM (by omega)
 clear p q r D;go_wp2;go_ret;exact⟨rfl,⟨e,k,v.o,w.o,x.o⟩,bj.into (bj.of_below_all l) C (fun a _ i=>i)⟩
theorem dH{i:GQ}(g:List Value)(f:Int)(d:Nat)(b:dj)(c:World)(e:Oz i c d b [])(o:g[0]? =some (.int .i64 f))(l:f=3\/f=4\/f=5):
  CP 12 #[.pointer (some ⟨d,0,none⟩),.agg g.toArray] c fun k m=>k=.returned (.bool true)/\Below c.heap.size c m:=by
 have n:d<c.heap.size:=aj.lt e.row;have h:b.n=0:=(vj (a:=b.a) (n':=b.n) (cap:=b.cap) e.own).1;have p:c.cell? ⟨d,0,none⟩=some (.slice b.a 0 b.cap):=by
  have:c.cell? ⟨d,0,none⟩=some (.slice b.a b.n b.cap):=aj.cell e.row 0 (by simp);rw[h]at this;exact this
 clear h e;have j:Hd (BB c (c.alloc (.cells g.toArray 43))):=tO;rcases l with rfl|rfl|rfl
 all_goals
  go_enter Tryz.func12,Tryz.ntmps12;go_wp2;go_ret;exact⟨rfl,j.o⟩
theorem eH{E:GQ}(g:List Value)(q d:Int)(n:Nat)(b:dj)(i:List tj)(e:World)(k:Oz E e n b i)(s:g.length=24)(a7:g[0]? =some (.int .i64 q))(N:q=3\/q=4\/q=5)(a8:g[1]? =some (.int .i64 d))(L: -9223372036854775808<=d)(M:d<=9223372036854775807)(P:1<=i.length)
  (D:∀(f:World) (c:tj),gz f c->CP 21 #[.pointer (some ⟨n,0,none⟩),.agg g.toArray,.pointer (some ⟨c.pb,0,none⟩)] f fun h m=>h=.returned (.bool true)/\Cz c f m):
  CP 12 #[.pointer (some ⟨n,0,none⟩),.agg g.toArray] e fun h m=>h=.returned (.bool true)/\∃(f:World) (c:tj),c∈i/\Below e.heap.size e f/\Cz c f m/\∃t:Nat,i[t]? =some c:=by
 obtain⟨c,w,x⟩:=Tryz.rowOp;have V:Hd ((Tryz.prog.info? 43).map (·.size)=some g.length):=by rw[s];exact Tryz.sizeOp
 have G:Hd (Tryz.prog.underlying 43=some c):=w;have H:Hd (c.isRow=true):=x;have X:Hd (g.length=24):=s;have F:Hd (BB e (e.alloc (.cells g.toArray 43))):=tO;have a6:n<e.heap.size:=aj.lt k.row;have W:e.cell? ⟨n,0,none⟩=some (.slice b.a b.n b.cap):=aj.cell k.row 0 (by simp);obtain⟨R,Q,B,A⟩:=vj (a:=b.a) (n':=b.n) (cap:=b.cap) k.own;obtain⟨j,p,a1⟩:∃j,b.a=some ⟨j,0,none⟩/\j<e.heap.size:=by
  rcases A with⟨_,Z,_⟩|⟨j,p,_,O⟩
  .omega
  .exact⟨j,p,O⟩
 rw[p]at W;have C:b.n<=maxLen:=by omega
 obtain⟨o,y,a0⟩:∃c,i[aq d b.n]? =some c/\e.cell? ⟨j,aq d b.n,none⟩=some (.pointer (some ⟨c.pb,0,none⟩)):=by
  have z:aq d b.n<i.length:=by have:=Yz d b.n (by omega);omega
  refine⟨i[aq d b.n],UM z,?_⟩;have U:jj e b.a (i.map (fun c=>Cj c.pb)):=(jj.ofOwn k.own).1;obtain⟨Y,a9,h,_,v⟩:=U (aq d b.n) (by simpa using z);rw[p]at h;cases h;rw[sN]at v;rw[v];simp[Cj]
 have r:Hd (i[aq d b.n]? =some o):=y;have a2:(aq d b.n:Int)<b.n:=by have:=Yz d b.n (by omega);omega
 have J:Hd (∀f,CP 20 #[.int .i64 d,.int .i64 (b.n:Int)] f fun h m=>h=.returned (.int .i64 (aq d b.n:Int))/\m=f):=fun f=>Uv d b.n f L M (by omega) C;generalize aq d b.n=t at*;have a4:1<=b.n:=by omega
 have a5:(b.n:Int)<=9223372036854775807:=by unfold maxLen at B;omega
 have a3:((b.n:Int)==0)=false:=by simp;omega
 have I:Hd (∀c∈i,gz e c):=k.ok;have K:Hd (∀(f:World) (c:tj),gz f c->_):=D;clear w x s R Q B A D P y C;rcases N with rfl|rfl|rfl
 all_goals
  go_enter Tryz.func12,Tryz.ntmps12;go_wp2;go_quiet (first|(go_at_call 20;exact Calls.quiet_of_same (J.o _)));have u:Hd (BB e ((e.alloc (.cells g.toArray 43)).drewN nq)):=by
   have l:=F.o;exact⟨l.os,l.tape,l.output,l.size,l.block⟩
  go_wp2_with (refine wpList_load_mid (by rfl) 43 (.tmp 3) (by rfl) e.heap.size 0 (by rfl) g c (by exact wy e g 43) G.o H.o V.o ?_);refine(K.o _ o ((I.o o (mN r.o)).frame (bj.of_below_all (S:=fun _=>False) u.o) (fun _ _ h=>h))).mono ?_;rintro h aa ⟨rfl,T⟩;go_wp2;go_ret;exact⟨rfl,_,o,mN r.o,u.o,T,t,r.o⟩
theorem sM(A:Option Addr)(k a3 q:Nat)(g:Int)(j:List Int)(c:Nat->Fy)(h:World)(Inv:Nat->World->Prop)(z:Fy->Prop)(ad:k<=maxLen)(ag:lJ h A k c)(ae:∀n,n<k->z (c n))
  (aa:q<h.heap.size)(M:(g::j).length<=maxLen)(u:DV h q (g::j))
  (a5:Inv 0 (h.alloc (.cells #[.slice none 0 0,.slice none 0 0,.slice none 0 0,.slice none 0 0] 34)))
  (D:∀a wr,Inv a wr->Below h.heap.size h wr)(F:∀a wr m,Inv a wr->Inv a (wr.drewN m))(G:∀a wr,Inv a wr->Inv (a+1) wr)
  (R:∀wr,Inv 0 wr->CP 12 #[.pointer (some ⟨h.heap.size,0,none⟩),.agg #[.int .i64 g,.int .i64 0,.int .i64 0,.int .i64 0,.string ⟨#[99,97,105,114,110]⟩,.string ⟨#[]⟩,.string ⟨#[]⟩,.int .u8 0,.int .u8 0,.int .u8 0,.int .u8 0,.int .u8 0,.int .u8 0,.int .u8 0,.int .u8 0,
   .int .u8 0,.int .u8 0,.int .u8 0,.int .u8 0,.int .u8 0,.int .u8 0,.int .u8 0,.int .u8 0,.slice none 0 0]] wr fun i l=>i=.returned (.bool true)/\Inv 1 l)
  (Q:∀a wr f,a<=k->Inv a wr->z f->f.kind∈g::j->f.s.size<=140737488351232->f.t.size<=140737488351232->f.u.size<=140737488351232->
   CP 12 #[.pointer (some ⟨h.heap.size,0,none⟩),.agg f.cells.toArray] wr fun i l=>i=.returned (.bool true)/\Inv (a+1) l)
  (N:∀a wr,Inv a wr->CP 13 #[.pointer (some ⟨h.heap.size,1,none⟩)] wr fun i l=>i=.returned (.bool true)/\Inv a l):
  CP 9 #[.slice A k a3,.slice (some ⟨q,0,none⟩) (g::j).length (g::j).length] h fun i l=>i=.returned (.bool true)/\∃a,Inv a l:=by
 have S:Hd (∀wr,Inv 0 wr->_):=R;have T:Hd (∀a wr f,a<=k->Inv a wr->_):=Q;have U:Hd (∀a wr,Inv a wr->_):=N;have V:Hd (∀a wr,Inv a wr->_):=D;have W:Hd (∀a wr m,Inv a wr->_):=F;have a1:Hd (∀a wr,Inv a wr->Inv (a+1) wr):=G;clear R Q N D F G;have ab:=u 0 (by simp);have a0:Hd (DV h q (g::j)):=u;have av:Hd ((g::j).length<=maxLen):=M;simp only[cN]at ab;unfold maxLen at ad M;have aA:(1:Int)<=((g::j).length:Int):=by simp;omega
 generalize H:(g::j)=d at*;have ax:Hd (g::j=d):=H;clear H u;go_enter Tryz.func9,Tryz.ntmps9;go_wp2_with fail;refine(S.o _ a5).mono ?_;rintro i aE ⟨rfl,a6⟩;go_wp2
 go_loopw [6,7,8,9] (fun ap n _ _ wr=>∃b:Nat,b<=k/\n=.int .i64 b/\ap=.bool true/\Inv (b+1) wr) (fun _ n _ _ _=>k - (intOf n).toNat)
 case atStart=>exact⟨0,by omega,by simp,by simp,a6⟩
 case round=>
  obtain⟨b,aB,rfl,rfl,t⟩:=hrel;by_cases O:b<k
  .obtain⟨r,f,rfl,a9,af,ah,ai,ak⟩:=ag b O;have C:=V.o _ _ t;have v:wr.rangeAt r (f+b*24) (c b).cells:=fun o ar am=>by rw[C.cell (p:=⟨r,f+b*24+o,none⟩) a9];exact af o ar am
   have ao:=v 0 (.int .i64 (c b).kind) rfl;rw[eaj]at ao;have a2:Hd (wr.rangeAt r (f+b*24) (c b).cells):=v;clear v;go_wp2
   go_loopw [8,9] (fun w o l=>∃(a m:Nat),a<=d.length/\o=.int .i64 a/\w=.bool ((d.take a).any (fun e=>(c b).kind==e))/\l=wr.drewN m) (fun _ o _=>d.length - (intOf o).toNat)
   case atStart=>exact⟨0,0,by omega,by simp,by simp,rfl⟩
   case round=>
    obtain⟨a,m,aD,rfl,rfl,rfl⟩:=hrel;by_cases P:a<d.length
    .have aC:wr.cell? ⟨q,a,none⟩=some (.int .i64 d[a]):=by rw[C.cell (p:=⟨q,a,none⟩) aa];exact a0.o a P
     have y:Hd (_=_):=TH d a P (c b).kind;generalize (d.take a).any (fun e=>(c b).kind==e)=w at*;cases w
     .go_wp2;go_quiet (fail);go_wp2;refine⟨⟨a+1,m+nq,by omega,by go_num,by rw[y.o,Bool.false_or],rfl⟩,by simp[intOf];omega⟩
     .go_wp2;go_quiet (fail);go_wp2;refine⟨⟨a+1,m+nq,by omega,by go_num,by rw[y.o,Bool.true_or],rfl⟩,by simp[intOf];omega⟩
    .have Z:Hd ((d.take a).any (fun e=>(c b).kind==e)=d.any (fun e=>(c b).kind==e)):=by
      unfold Hd;rw[aaj (by omega)]
     rw[Z.o];have E:=W.o _ _ m t;have x:Hd (d.any (fun e=>(c b).kind==e)=true->(c b).kind∈d):=fun a4=>by
      obtain⟨e,an,L⟩:=List.any_eq_true.1 a4;rw[beq_iff_eq]at L;rw[L];exact an
     generalize I:d.any (fun e=>(c b).kind==e)=B at*;have au:Hd (d.any (fun e=>(c b).kind==e)=B):=I;clear I;cases B
     .go_wp2;refine⟨⟨b+1,by omega,by go_num,by simp,a1.o _ _ E⟩,by simp[intOf];omega⟩
     .obtain⟨s,J,K⟩:=Tryz.rowOp;have ac:Hd ((c b).kind∈d):=x.o rfl;clear x;have al:Hd ((Tryz.prog.info? 43).map (·.size)=some (c b).cells.length):=Tryz.sizeOp;have X:Hd (Tryz.prog.underlying 43=some s):=J;have Y:Hd (s.isRow=true):=K;clear J K;go_wp2_with (refine wpList_load_mid (by rfl) 43 (.tmp 50) (by rfl) r (f+b*24) (by rfl) (c b).cells s (by exact a2.o) X.o Y.o al.o ?_);refine(T.o _ _ (c b) (by omega) E (ae b O) ac.o ah ai ak).mono ?_;rintro i aI ⟨rfl,a7⟩;go_wp2_with fail;refine(U.o _ _ a7).mono ?_;rintro i aO ⟨rfl,a8⟩;go_wp2;refine⟨⟨b+1,by omega,by go_num,by simp,a8⟩,by simp[intOf];omega⟩
  .go_wp2;go_ret;exact⟨rfl,_,t⟩
def qX(c:List Value):Prop:=∀(e:Value) (a:World) (b:tj),gz a b->CP 21 #[e,.agg c.toArray,.pointer (some ⟨b.pb,0,none⟩)] a fun d f=>d=.returned (.bool true)/\Cz b a f
theorem GK(b:List (dj×List ej))(a:Nat)(c:a<b.length):qy (b.map (·.2)) (a:Int)=b[a].2:=by
 unfold qy;simp[c]
theorem nY(i:Nat)(n p r:dj)(o:List ej)(a:List (dj×List ej))(s:List (List UInt8))(e:Int)(j:dj)(b:List UInt8)(c:World)(t:Yj c i 0 n p r o a s)(u:a.length<=40)(z:∀E∈a,Qv E.2)(v:BS c j b)(B:b.length<=maxLen):
  CP 47 #[.pointer (some ⟨i,0,none⟩),.int .i64 e,j.val] c fun q k=>∃w:dj,q=.returned (.tuple #[w.val,.int .i64 (xx (a.map (·.2)).length e b:Int)])/\rj k c.heap.size w.val (jv (a.map (·.2)) e b)/\Below c.heap.size c k:=by
 cases g:az (a.map (·.2)).length e with
 |true=>
  have d:xx (a.map (·.2)).length e b=4:=by unfold xx;rw[if_pos g]
  refine(IV i n p r o a s e j.val c t u (by simpa using g)).mono ?_;rintro q k ⟨rfl,f⟩;refine⟨⟨none,0,0⟩,by rw[d];rfl,?_,f⟩;unfold jv;rw[d];exact iN _ _ _ _
 |false=>
  have A:az a.length e=false:=by simpa using g
  obtain⟨h,rfl,m⟩:=pQ A;cases l:Zj b with
  |false=>
   have d:xx (a.map (·.2)).length (h:Int) b=1:=by unfold xx;rw[if_neg (by rw[g];decide),if_pos l]
   refine(gK i n p r o a s h j b c t u m v B l).mono ?_;rintro q k ⟨rfl,f⟩;refine⟨⟨none,0,0⟩,by rw[d];rfl,?_,f⟩;unfold jv;rw[d];exact iN _ _ _ _
  |true=>
   have d:xx (a.map (·.2)).length (h:Int) b=0:=by unfold xx;rw[if_neg (by rw[g];decide),if_neg (by rw[l];decide)]
   refine(CW i n p r o a s h j b c t u m (z _ (bN m)) v l).mono ?_;rintro q k ⟨x,D,y,rfl,C,f⟩;refine⟨⟨x,D,y⟩,by rw[d];rfl,?_,f⟩;unfold jv;rw[d,if_pos rfl,GK a h m];exact C
theorem oY(j:Nat)(p r t:dj)(q:List ej)(a:List (dj×List ej))(u:List (List UInt8))(f:Int)(k l:dj)(b c:List UInt8)(d:World)(v:Yj d j 0 p r t q a u)(w:a.length<=40)(C:∀I∈a,Qv I.2)(x:BS d k b)(y:BS d l c)(E:b.length<=maxLen)(G:c.length<=maxLen):
  CP 49 #[.pointer (some ⟨j,0,none⟩),.int .i64 f,k.val,l.val] d fun s m=>∃z:dj,s=.returned (.tuple #[z.val,.int .i64 (yx (a.map (·.2)).length f b c:Int)])/\rj m d.heap.size z.val (Xz (a.map (·.2)) f b c)/\Below d.heap.size d m:=by
 cases h:az (a.map (·.2)).length f with
 |true=>
  have e:yx (a.map (·.2)).length f b c=4:=by unfold yx;rw[if_pos h]
  refine(cV j p r t q a u f k.val l.val d v w (by simpa using h)).mono ?_;rintro s m ⟨rfl,g⟩;refine⟨⟨none,0,0⟩,by rw[e];rfl,?_,g⟩;unfold Xz;rw[e];exact iN _ _ _ _
 |false=>
  have D:az a.length f=false:=by simpa using h
  obtain⟨i,rfl,o⟩:=pQ D;cases n:Qx b c with
  |false=>
   have e:yx (a.map (·.2)).length (i:Int) b c=1:=by unfold yx;rw[if_neg (by rw[h];decide),if_pos n]
   refine(yY j p r t q a u i k l b c d v w o x y E G n).mono ?_;rintro s m ⟨rfl,g⟩;refine⟨⟨none,0,0⟩,by rw[e];rfl,?_,g⟩;unfold Xz;rw[e];exact iN _ _ _ _
  |true=>
   have e:yx (a.map (·.2)).length (i:Int) b c=0:=by unfold yx;rw[if_neg (by rw[h];decide),if_neg (by rw[n];decide)]
   refine(qK j p r t q a u i k l b c d v w o (C _ (bN o)) x y n).mono ?_;rintro s m ⟨A,H,B,rfl,F,g⟩;refine⟨⟨A,H,B⟩,by rw[e];rfl,?_,g⟩;unfold Xz;rw[e,if_pos rfl,GK a i o];exact F
theorem pY{a:List ej}(c:Qv a)(d e:List UInt8):(Dy a d e).length<=100000000000000:=by
 have b:=yw a c.1 c.2.1 c.2.2;unfold Dy;have f:Wz a=yj (Rj a) (dq a) 0:=by
  unfold Wz yj dq;cases ((Rj a)[(Rj a).length - 1]?.getD [])<;>rfl
 rw[f];exact OJ b d e _ (by have:=b.len;unfold dq;omega) _ (Gz b _ _).1 (Gz b _ _).2.1
theorem uQ{c:List (List ej)}(e:∀b∈c,Qv b)(d:Int):Qv (qy c d):=by
 unfold qy;rw[iaj];cases a:c[d.toNat]? with
 |none=>exact⟨List.Pairwise.nil,fun f a=>(by cases a),by simp⟩
 |some b=>exact e b (mN a)
theorem xF{b:List (List ej)}(c:∀e∈b,Qv e)(a:Int)(d:List UInt8):(jv b a d).length<=100000000000000:=by
 unfold jv
 split
 .exact pY (uQ c a) _ _
 .simp
theorem yF{b:List (List ej)}(d:∀e∈b,Qv e)(a:Int)(c f:List UInt8):(Xz b a c f).length<=100000000000000:=by
 unfold Xz
 split
 .exact pY (uQ d a) _ _
 .simp
theorem gy.past{n:World}{m:Nat}{l:Option Nat}{h:List Tj}{c:List (List (List Nd))}{f:List Nd}{e:List (List ej)}(b:gy n m l h c f e):∀g∈e,Qv g:=fun g k=>by
 obtain⟨a,d,rfl⟩:=PN k;have i:a<c.length:=by rw[b.tl,<-b.pl];exact d
 have j:a<f.length:=by rw[<-b.pl];exact d
 have:=(b.rep a c[a] e[a] f[a] (UM i) (UM d) (UM j)).2.2;exact⟨this.rise,this.ok,this.len⟩
end
section
attribute [local go_sem↓] Go.wp_at_zero Go.wp_at_succ
theorem Fq.pastR{d:World}{a:tj}(b:Fq d a):∀c∈a.pp,Qv c:=b.tre.past
theorem Kv(b:Nat)(d:World)(a:ByteArray)(c:Nat)(g:TypeId)(e:Nat×Nat)(f:b=d.heap.size):BS (d.alloc (.cells (bytesRow a c) g e)) ⟨some ⟨b,0,none⟩,a.size,c⟩ a.data.toList:=by
 subst f;exact BS.ofString _ _ _ _ _
theorem Px{c:World}{b:dj}{a:List UInt8}(e:BS c b a)(d:Obj):BS (c.alloc d) b a:=e.below tO
end
section
theorem rX{g:World}{m n:Nat}{e:dj}{rs:List Yq}(o:g.ownsRow m n 5 e.val rs.length (ux 0 rs)):e.n=rs.length/\∀a (j:a<rs.length),∃c b,e.a=some ⟨c,b,none⟩/\c<g.heap.size/\g.rangeAt c (b+a*5) (qz rs[a] a):=by
 obtain⟨k,q⟩:=jj.ofOwn (s:=e) o;refine⟨q,fun a j=>?_⟩;obtain⟨c,b,h,p,_⟩:=k (a*5) (by rw[Hw];omega);refine⟨c,b,h,p,fun d w l=>?_⟩;have t:d<5:=by
  have:=(kN.1 l).1;simpa[qz]using this
 have f:=bK 0 rs a j d t;rw[sN]at f;obtain⟨u,v,i,_,r⟩:=k (a*5+d) (by rw[Hw];omega);rw[h]at i;cases i;rw[show b+a*5+d=b+(a*5+d)by omega,r];rw[l]at f;rw[UM (by rw[Hw];omega)]at f;exact f
theorem RJ{b wr:World}{a c n:Nat}{e:List Value}(g:Below b.heap.size b wr)(h:a<b.heap.size)(f:b.rangeAt a c e):wr.rangeAt a c e:=fun d j i=>by
 rw[g.cell (p:=⟨a,c+d,none⟩) h];exact f d j i
theorem Tryz.sizeDigests:(Tryz.prog.info? 62).map (·.size)=some 5:=by kernel_rfl
theorem Tryz.sizeEntries:(Tryz.prog.info? 65).map (·.size)=some 5:=by kernel_rfl
theorem fH(v:Nat)(W g h i:dj)(l k:List Yq)(f:List Tw)(b:World)(O:aj b v 34 [W.val,g.val,h.val,i.val])(H:Mz b g l)(I:cx b h k)(J:Ox b i f)(V:l.length<=1200000000000)(T:k.length<=1200000000000)(U:f.length<=1200000000000):
  CP 13 #[.pointer (some ⟨v,1,none⟩)] b fun j a6=>j=.returned (.bool true)/\Below b.heap.size b a6:=by
 obtain⟨K,P⟩:=rX H.own;obtain⟨L,Q⟩:=rX I.own;have M:f.length=(f.map (·.r)).length:=by simp
 obtain⟨E,R⟩:=rX (rs:=f.map (·.r)) (by rw[<-M];exact J.own);rw[<-M]at E;have a9:(g.n:Int)<=1200000000000:=by rw[K];omega
 have a7:(h.n:Int)<=1200000000000:=by rw[L];omega
 have a8:(i.n:Int)<=1200000000000:=by rw[E];omega
 have a0:Hd (g.n=l.length):=K;have a1:Hd (h.n=k.length):=L;have a2:Hd (i.n=f.length):=E;have u:Hd (aj b v 34 [W.val,g.val,h.val,i.val]):=O;have Y:Hd (Mz b g l):=H;have Z:Hd (cx b h k):=I;have N:Hd (Ox b i f):=J;have G:Hd (l.length<=1200000000000/\k.length<=1200000000000/\f.length<=1200000000000):=⟨V,T,U⟩;have a5:Hd (∀a (p:a<l.length),∃d e,g.a=some ⟨d,e,none⟩/\d<b.heap.size/\b.rangeAt d (e+a*5) (qz l[a] a)):=P;have a3:Hd (∀a (p:a<k.length),∃d e,h.a=some ⟨d,e,none⟩/\d<b.heap.size/\b.rangeAt d (e+a*5) (qz k[a] a)):=Q;have a4:Hd (∀a (p:a<f.length),∃d e,i.a=some ⟨d,e,none⟩/\d<b.heap.size/\b.rangeAt d (e+a*5) (qz f[a].r a)):=fun a p=>by
  have:=R a (by simpa using p);simpa using this
 clear K L E P Q R M O H I J V T U;go_enter Tryz.func13,Tryz.ntmps13;go_wp2
 go_loopw [3,4,5] (fun D o _ wr=>∃a:Nat,a<=g.n/\o=.int .i64 a/\D=.bool true/\Below b.heap.size b wr) (fun _ o _ _=>g.n - (intOf o).toNat)
 case atStart=>exact⟨0,by omega,by simp,by simp,VM _ _⟩
 case round=>
  obtain⟨a,p,rfl,rfl,c⟩:=hrel;have m:=u.o.below u.o.lt c;have s:wr.cell? ⟨v,1,none⟩=some (.slice g.a g.n g.cap):=m.cell 1 (by simp);by_cases F:a<g.n
  .have t:(a:Int)<g.n:=by omega
   have q:a<l.length:=by have:=a0.o;omega
   obtain⟨d,e,A,C,r⟩:=a5.o a q;have y:Hd (Calls _ _ _ _ _):=tG l[a] a wr (((Y.o.ok a q).frame (bj.of_below_all (S:=fun _=>False) c) (fun _ _ j=>j))) (by have:=G.o.1;omega);have x:Hd (wr.rangeAt d (e+a*5) (qz l[a] a)):=RJ (n:=0) c C r;have z:Hd ((Tryz.prog.info? 60).map (·.size)=some (qz l[a] a).length):=Tryz.sizeBytes;rw[A]at s;clear r m;go_wp2_with (first
    |(refine wpList_load_mid (by rfl) 60 (.tmp 24) (by rfl) d (e+a*5) (by rfl) (qz l[a] a) _ x.o Tryz.underlying60 (by rfl) z.o ?_)
    |(go_at_call 24;refine y.o.mono ?_;rintro j X ⟨rfl,B⟩))
   refine⟨⟨a+1,by omega,by go_num,by simp,c.trans (B.mono c.size)⟩,by simp[intOf];omega⟩
  .have t:¬(a:Int)<g.n:=by omega
   clear m;have w:Hd (BB b wr):=c;clear c;go_wp2
   go_loopw [3,6,7] (fun D o _ wr=>∃a:Nat,a<=h.n/\o=.int .i64 a/\D=.bool true/\Below b.heap.size b wr) (fun _ o _ _=>h.n - (intOf o).toNat)
   case atStart=>exact⟨0,by omega,by simp,by simp,w.o⟩
   case round=>
    clear p t F s
    rename_i aa _ _ _ _ _
    clear w;obtain⟨a,p,rfl,rfl,c⟩:=hrel;have m:=u.o.below u.o.lt c;have s:wr.cell? ⟨v,2,none⟩=some (.slice h.a h.n h.cap):=m.cell 2 (by simp);by_cases F:a<h.n
    .have t:(a:Int)<h.n:=by omega
     have q:a<k.length:=by have:=a1.o;omega
     obtain⟨d,e,A,C,r⟩:=a3.o a q;have y:Hd (Calls _ _ _ _ _):=nF k[a] a wr (((Z.o.ok a q).frame (bj.of_below_all (S:=fun _=>False) c) (fun _ _ j=>j))) (by have:=G.o.2.1;omega);have x:Hd (wr.rangeAt d (e+a*5) (qz k[a] a)):=RJ (n:=0) c C r;have z:Hd ((Tryz.prog.info? 62).map (·.size)=some (qz k[a] a).length):=Tryz.sizeDigests;rw[A]at s;clear r m;go_wp2_with (first
      |(refine wpList_load_mid (by rfl) 62 (.tmp 45) (by rfl) d (e+a*5) (by rfl) (qz k[a] a) _ x.o Tryz.underlying62 (by rfl) z.o ?_)
      |(go_at_call 25;refine y.o.mono ?_;rintro j X ⟨rfl,B⟩))
     refine⟨⟨a+1,by omega,by go_num,by simp,c.trans (B.mono c.size)⟩,by simp[intOf];omega⟩
    .have t:¬(a:Int)<h.n:=by omega
     clear m;have w:Hd (BB b wr):=c;clear c;go_wp2
     go_loopw [3,8,9] (fun D o _ wr=>∃a:Nat,a<=i.n/\o=.int .i64 a/\D=.bool true/\Below b.heap.size b wr) (fun _ o _ _=>i.n - (intOf o).toNat)
     case atStart=>exact⟨0,by omega,by simp,by simp,w.o⟩
     case round=>
      clear p t F s w;obtain⟨a,p,rfl,rfl,c⟩:=hrel;have m:=u.o.below u.o.lt c;have s:wr.cell? ⟨v,3,none⟩=some (.slice i.a i.n i.cap):=m.cell 3 (by simp);by_cases F:a<i.n
      .have t:(a:Int)<i.n:=by omega
       have q:a<f.length:=by have:=a2.o;omega
       obtain⟨d,e,A,C,r⟩:=a4.o a q;have y:Hd (Calls _ _ _ _ _):=ZU f[a].r a f[a].kb wr (((N.o.ok a q).1.frame (bj.of_below_all (S:=fun _=>False) c) (fun _ _ j=>j))) (((N.o.ok a q).2.frame (bj.of_below_all (S:=fun _=>False) c) (fun j=>j))) (by have:=G.o.2.2;omega);have x:Hd (wr.rangeAt d (e+a*5) (qz f[a].r a)):=RJ (n:=0) c C r;have z:Hd ((Tryz.prog.info? 65).map (·.size)=some (qz f[a].r a).length):=Tryz.sizeEntries;rw[A]at s;clear r m;go_wp2_with (first
        |(refine wpList_load_mid (by rfl) 65 (.tmp 66) (by rfl) d (e+a*5) (by rfl) (qz f[a].r a) _ x.o Tryz.underlying65 (by rfl) z.o ?_)
        |(go_at_call 26;refine y.o.mono ?_;rintro j X ⟨rfl,B⟩))
       refine⟨⟨a+1,by omega,by go_num,by simp,c.trans (B.mono c.size)⟩,by simp[intOf];omega⟩
      .have t:¬(a:Int)<i.n:=by omega
       clear m;go_wp2;go_ret;exact⟨rfl,c⟩
theorem SZ(b:Nat):∀(c:List (List ej)) (a:Nat),(bq b a c).map (·.below)=List.range' a c.length
 |[],a=>by simp[bq]
 |e::d,a=>by
  unfold bq;rw[ZM,SZ b d (a+1),uN,List.range'_succ]
theorem TZ:∀(f b:Nat) (d:List ej) (e:Nat) (c:List (List ej)),(Eq f b d)[e+1]? =some c->(c.flatten.map (·.below)).Nodup
 |0,b,d,e,c,a=>by simp[Eq]at a
 |f+1,b,d,e,c,a=>by
  unfold Eq at a;by_cases g:(nj b d).length=1
  .rw[if_pos g]at a;simp at a
  .rw[if_neg g,zaj]at a;cases e with
   |succ e=>exact TZ f (b+1) _ e c a
   |zero=>
    cases f with
    |zero=>simp[Eq]at a
    |succ f=>
     have i:c=nj (b+1) (bq b 0 (nj b d)):=by
      unfold Eq at a
      split at a
      .simpa using a.symm
      .simpa using a.symm
     have h:c.flatten=bq b 0 (nj b d):=by rw[i];unfold nj;rw[Ck];rfl
     rw[h,SZ];exact List.nodup_range'
def ik(a:List (List (List ej)))(c f:List UInt8)(b:Nat)(e:List Nat):Nat:=(e.map (fun d=>(Gq a c f b (yj a b d)).length)).sum
def bQ(a:List ej)(c d:List UInt8):List Nat:=(List.range a.length).flatMap (fun b=>if gq a b c d=true then[Tq a b]else[])
theorem DJ(a:List ej)(c e:List UInt8):List.Sublist (bQ a c e) (a.map (·.below)):=by
 have g:∀b,b<=a.length->List.Sublist ((List.range b).flatMap (fun d=>if gq a d c e=true then[Tq a d]else[])) ((a.take b).map (·.below)):=fun b=>by
  induction b with
  |zero=>intro _;simp
  |succ b h=>
   intro i;rw[uaj,KN,RN (by omega),rN];refine List.Sublist.append (h (by omega)) ?_;have f:Tq a b=a[b].below:=by unfold Tq;rw[UM (by omega)];rfl
   simp only[JN,List.flatMap_nil,XN,ZM,dN]
   split
   .rw[f];exact List.Sublist.refl _
   .exact List.nil_sublist _
 have:=g a.length (TM _);rw[raj]at this;exact this
theorem zF(e:List (List (List ej)))(b d:List UInt8)(c:Nat)(a:List ej):(Gq e b d (c+1) a).length=(fq (c+1) a).length+ik e b d c (bQ a b d):=by
 rw[Iw,XM]
 congr 1
 unfold fz ik bQ;rw[List.map_flatMap];generalize List.range a.length=f
 induction f with
 |nil=>rfl
 |cons h f g=>
  rw[JN,JN,XM,List.sum_append,g]
  congr 1
  split<;>simp
theorem gH(e:List (List (List ej)))(c g:List UInt8)(f:Nat)(a:List Nat)(b:Nat->List Nat):ik e c g f (a.flatMap b)=(a.map (fun d=>ik e c g f (b d))).sum:=by
 unfold ik
 induction a with
 |nil=>rfl
 |cons d a h=>rw[JN,rN,List.sum_append,h];rfl
theorem qY(d:Nat->Nat)(c:Nat)(a:List Nat)(e:∀b∈a,d b<=c):(a.map d).sum<=a.length*c:=by
 induction a with
 |nil=>simp
 |cons b a g=>
  have i:=e b (by simp);have j:=g (fun h f=>e h (by simp[f]));rw[ZM,List.sum_cons,uN,Nat.add_mul];omega
theorem qw:∀(b:Nat) (a:List Nat),a.Nodup->(∀c∈a,c<b)->a.length<=b
 |0,a,_,d=>by
  cases a with
  |nil=>simp
  |cons c a=>exact absurd (d c (by simp)) (wN _)
 |b+1,a,e,d=>by
  have h:=qw b (a.erase b) (e.erase b) (fun c g=>by
   have:=(List.Nodup.mem_erase_iff e).1 g;have:=d c this.2;omega)
  have:a.length<=(a.erase b).length+1:=by
   by_cases f:b∈a
   .rw[List.length_erase_of_mem f];omega
   .rw[List.erase_of_not_mem f];omega
  omega
theorem kV{d:List (List (List ej))}(l:Wx d)(F:∀b K,d[b+1]? =some K->(K.flatten.map (·.below)).Nodup)(e g:List UInt8):∀(b:Nat) (f:List (List ej)) (c:List Nat),d[b]? =some f->c.Nodup->(∀a∈c,a<f.length)->ik d e g b c<=(b+1)*97600
 |0,f,c,i,m,h=>by
  have A:=qw f.length c m h;have L:=l.cnt 0 f i;have B:=qY (fun a=>(Gq d e g 0 (yj d 0 a)).length) 1600 c (fun a _=>by
   have:=Gz l 0 a;show(fq 0 _).length<=1600;exact Uz 0 _ this.2.1 this.1)
  unfold ik;have C:c.length*1600<=61*1600:=cbj _ (by omega);exact WM B (WM C (by decide))
 |b+1,f,c,i,m,h=>by
  have A:=qw f.length c m h;have L:=l.cnt (b+1) f i;have v:ik d e g (b+1) c=(c.map (fun a=>(fq (b+1) (yj d (b+1) a)).length)).sum+ik d e g b (c.flatMap (fun a=>bQ (yj d (b+1) a) e g)):=by
   rw[gH];unfold ik;clear m h A
   induction c with
   |nil=>rfl
   |cons a c z=>
    simp only[ZM,List.sum_cons]at z⊢;rw[z,zF];unfold ik;omega
  have B:=qY (fun a=>(fq (b+1) (yj d (b+1) a)).length) 1600 c (fun a _=>by
   have:=Gz l (b+1) a;exact Uz (b+1) _ this.2.1 this.1)
  have C:c.length*1600<=61*1600:=cbj _ (by omega);obtain⟨o,E⟩:∃o,d[b]? =some o:=by
   have:=(kN.1 i).1;exact⟨_,UM (by omega)⟩
  have G:=F b f i;have s:∀a,∀k:a<f.length,yj d (b+1) a=f[a]:=fun a k=>by
   unfold yj;rw[i];simp[k]
  rw[List.map_flatten]at G;have H:=List.pairwise_flatten.1 G;have P:∀p∈c.flatMap (fun a=>bQ (yj d (b+1) a) e g),p<o.length:=fun p j=>by
   obtain⟨a,y,j⟩:=Eaj.1 j;have n:=h a y;rw[s a n]at j;have:=(DJ _ e g).subset j;obtain⟨u,t,rfl⟩:=vN.1 this;exact(l.bel b o f E i _ (bN n) u t).1
  have Q:(c.flatMap (fun a=>bQ (yj d (b+1) a) e g)).Nodup:=by
   unfold List.Nodup;rw[List.flatMap_def,List.pairwise_flatten];refine⟨fun S O=>?_,?_⟩
   .obtain⟨a,y,rfl⟩:=vN.1 O;have n:=h a y;rw[s a n];exact List.Pairwise.sublist (DJ _ e g) (H.1 _ (vN.2 ⟨_,bN n,rfl⟩))
   .rw[List.pairwise_map];refine List.Pairwise.imp_of_mem ?_ m;intro q r M N R p j u t;have w:=h q M;have x:=h r N;rw[s q w]at j;rw[s r x]at t;have I:=(DJ _ e g).subset j;have J:=(DJ _ e g).subset t;have D:=Vaj.1 H.2;rcases Nat.lt_or_gt_of_ne R with k|k
    .have:=D q r (by simpa using w) (by simpa using x) k;simp only[Paj]at this;exact this p I u J
    .have:=D r q (by simpa using x) (by simpa using w) k;simp only[Paj]at this;exact fun v=>this u J p I v.symm
  have z:=kV l F e g b o _ E Q P;rw[v];omega
theorem rY{a:List ej}(e:Qv a)(c d:List UInt8):(Dy a c d).length<=1000000:=by
 have f:=yw a e.1 e.2.1 e.2.2;have i:Wz a=yj (Rj a) (dq a) 0:=by
  unfold Wz yj dq;cases ((Rj a)[(Rj a).length - 1]?.getD [])<;>rfl
 have n:=oy 7 0 a (by omega);have q:1<=(Rj a).length:=n.1;obtain⟨b,g⟩:∃b,(Rj a)[dq a]? =some b:=⟨_,UM (by unfold dq;omega)⟩;have p:dq a<=6:=by have:=f.len;unfold dq;omega
 unfold Dy;rw[i];by_cases l:0<b.length
 .have m:=kV f (fun h o=>TZ 7 0 a h o) c d (dq a) b [0] g (by simp) (by simpa using l);have j:ik (Rj a) c d (dq a) [0]=(Gq (Rj a) c d (dq a) (yj (Rj a) (dq a) 0)).length:=by simp[ik]
  rw[j]at m;have:(dq a+1)*97600<=7*97600:=cbj _ (by omega);omega
 .have k:yj (Rj a) (dq a) 0=[]:=by
   unfold yj;rw[g];have:b=[]:=ZN.1 (by omega);simp[this]
  rw[k];cases r:dq a with
  |zero=>simp[Gq,fq,Gj]
  |succ h=>simp[Gq,fq,Gj]
structure Ij where
 bs:dj
 dg:dj
 es:dj
 rs:List Yq
 gs:List Yq
 hs:List Tw
def Ij.F(a:Ij)(b:Nat):Prop:=Kj a.bs a.rs b\/Kj a.dg a.gs b\/ly a.es a.hs b
def Ij.V(a:Ij):GQ:=(a.bs.val,a.dg.val,a.es.val)
structure Dj(w:World)(wb:Nat)(ps:dj)(ds:List tj)(B:Ij):Prop where
 law:Oz B.V w wb ps ds
 bk:Mz w B.bs B.rs
 bd:cx w B.dg B.gs
 be:Ox w B.es B.hs
 low:∀k,B.F k->wb<k/\ps.val.ownBlock≠some k/\∀d∈ds,¬d.F k
 ap1:∀k,Kj B.bs B.rs k->¬Kj B.dg B.gs k
 ap2:∀k,ly B.es B.hs k->¬Kj B.bs B.rs k/\¬Kj B.dg B.gs k
theorem Dj.row{c:World}{d:Nat}{b:dj}{e:List tj}{a:Ij}(f:Dj c d b e a):aj c d 34 [b.val,a.bs.val,a.dg.val,a.es.val]:=f.law.row
theorem Dj.frame{k j:World}{S:Nat->Prop}{i:Nat}{h:dj}{f:List tj}{e:Ij}(b:Dj k i h f e)(d:bj S k j)(m:¬S i)(n:∀a,h.val.ownBlock=some a->¬S a)(o:∀l∈f,∀a,l.F a->¬S a)(g:∀a,e.F a->¬S a):Dj j i h f e:=
 ⟨b.law.frame d m n o,b.bk.frame d (fun a c=>g a (SM c)),b.bd.frame d (fun a c=>g a (RM (SM c))),b.be.frame d (fun a c=>g a (RM (RM c))),b.low,b.ap1,b.ap2⟩
theorem Dj.below{w b:World}{e:Nat}{d:dj}{c:List tj}{B:Ij}(f:Dj w e d c B)(g:Below w.heap.size w b):Dj b e d c B:=f.frame (bj.of_below_all (S:=fun _=>False) g) (fun a=>a) (fun _ _ a=>a) (fun _ _ _ _ a=>a) (fun _ _ a=>a)
theorem Dj.lt{e:World}{h:Nat}{g:dj}{f:List tj}{d:Ij}(c:Dj e h g f d):∀b,d.F b->b<e.heap.size:=fun b a=>by
 rcases a with a|a|a
 .exact c.bk.lt b a
 .exact c.bd.lt b a
 .exact c.be.lt b a
theorem Dj.start{h:World}{i:Nat}{g:dj}{e:List tj}(j:Oz (.slice none 0 0,.slice none 0 0,.slice none 0 0) h i g e):Dj h i g e ⟨⟨none,0,0⟩,⟨none,0,0⟩,⟨none,0,0⟩,[],[],[]⟩:=by
 have c:∀b,¬Kj ⟨none,0,0⟩ [] b:=fun b a=>by
  rcases a with a|⟨k,d,_⟩
  .cases a
  .cases d
 have f:∀b,¬ly ⟨none,0,0⟩ [] b:=fun b a=>by
  rcases a with a|⟨k,d,_⟩
  .cases a
  .cases d
 refine⟨j,Mz.nil _,cx.nil _,Ox.nil _,fun b a=>?_,fun b a=>absurd a (c b),fun b a=>absurd a (f b)⟩;rcases a with a|a|a
 .exact absurd a (c b)
 .exact absurd a (c b)
 .exact absurd a (f b)
theorem Dj.turn{h n g:World}{k:Nat->Prop}{i:Nat}{m:dj}{l:List tj}{j B':Ij}(c:Dj h i m l j)(q:Below h.heap.size h n)(r:bj k n g)(o:∀a,k a->a=i\/j.F a\/h.heap.size<=a)
  (A:aj g i 34 [m.val,B'.bs.val,B'.dg.val,B'.es.val])(u:Mz g B'.bs B'.rs)(v:cx g B'.dg B'.gs)(w:Ox g B'.es B'.hs)(y:∀a,B'.F a->a<h.heap.size->j.F a)(s:∀a,Kj B'.bs B'.rs a->¬Kj B'.dg B'.gs a)(t:∀a,ly B'.es B'.hs a->¬Kj B'.bs B'.rs a/\¬Kj B'.dg B'.gs a):
  Dj g i m l B':=by
 have p:=c.law.below q;have B:=q.size;have z:∀d∈l,∀a,d.F a->¬k a:=fun d f a e b=>by
  rcases o a b with b|b|b
  .have:=(c.law.low d f a e).1;omega
  .exact(c.low a b).2.2 d f e
  .have:=(c.law.ok d f).lay.lt a e;omega
 refine⟨⟨A,ij p.own r (fun a e b=>?_),fun d f=>(p.ok d f).frame r (z d f),c.law.low,c.law.psb,c.law.apart⟩,u,v,w,fun a e=>?_,s,t⟩
 .rcases o a b with b|b|b
  .have:=c.law.psb a e;omega
  .exact(c.low a b).2.1 e
  .have:=(c.law.own.lt a e).2;omega
 .by_cases x:a<h.heap.size
  .exact c.low a (y a e x)
  .refine⟨by have:=aj.lt c.law.row;omega,fun b=>by have:=(c.law.own.lt a b).2;omega,fun d f b=>by have:=(c.law.ok d f).lay.lt a b;omega⟩
def Ij.addB(a:Ij)(b:dj)(c:Yq):Ij:={a with bs:=b,rs:=a.rs++[c]}
theorem Dj.moreB{h m i:World}{l:Nat}{q f v:dj}{r:List tj}{d:Ij}{g:Yq}(e:Dj h l q r d)(n:Below h.heap.size h m)(k:∀a,v.val.ownBlock=some a->h.heap.size<=a)(y:aj i l 34 [q.val,f.val,d.dg.val,d.es.val])(u:Mz i f (d.rs++[g]))
  (o:bj (fun a=>a=l\/v.val.ownBlock=some a\/d.bs.val.ownBlock=some a) m i)(x:∀a,Kj f (d.rs++[g]) a->a<m.heap.size->Kj d.bs d.rs a\/v.val.ownBlock=some a):Dj i l q r (d.addB f g):=by
 have z:=n.size;have s:=e.below n;have p:∀a,Kj f (d.rs++[g]) a->a<h.heap.size->Kj d.bs d.rs a:=fun a c t=>by
  rcases x a c (by omega)with b|b
  .exact b
  .have:=k a b;omega
 refine e.turn (B':=d.addB f g) n o (fun a b=>?_) y u (s.bd.frame o (fun a c b=>?_)) (s.be.frame o (fun a c b=>?_)) (fun a c t=>?_) (fun a c j=>?_) (fun a c=>⟨fun j=>?_,(e.ap2 a c).2⟩)
 .rcases b with b|b|b
  .exact SM b
  .exact RM (RM (k a b))
  .exact RM (SM (SM (SM b)))
 .have w:=e.low a (RM (SM c));have:=e.bd.lt a c;rcases b with b|b|b
  .omega
  .have:=k a b;omega
  .exact e.ap1 a (SM b) c
 .have w:=e.low a (RM (RM c));have:=e.be.lt a c;rcases b with b|b|b
  .omega
  .have:=k a b;omega
  .exact(e.ap2 a c).1 (SM b)
 .rcases c with c|c
  .exact SM (p a c t)
  .exact RM c
 .exact e.ap1 a (p a c (e.bd.lt a j)) j
 .exact(e.ap2 a c).1 (p a j (e.be.lt a c))
theorem Dj.moreE{h A m:World}{i E:Nat}{v y:dj}{B:List tj}{c:Ij}{p:List dj}{b:Ending}(f:Dj h i v B c)(l:Below h.heap.size h A)(t:∀a,y.val.ownBlock=some a->h.heap.size<=a)(q:∀g∈p,∀a,g.val.ownBlock=some a->h.heap.size<=a)(G:QV A i v c.dg c.bs c.es y c.rs c.hs p E b m):
  ∃k:Ij,Dj m i v B k/\k.rs.length=c.rs.length+E*2/\k.gs=c.gs/\k.hs.length=c.hs.length+1/\bj (fun a=>a=i\/c.F a) h m:=by
 obtain⟨_,n,x,o,g,I,J,K,L,w,M,N,Q⟩:=G;have P:=l.size;have F:=f.below l;have C:∀a,(a=i\/Kj c.bs c.rs a\/c.es.val.ownBlock=some a\/(∃g∈p,g.val.ownBlock=some a)\/y.val.ownBlock=some a)->a=i\/c.F a\/h.heap.size<=a:=fun a b=>by
  rcases b with b|b|b|⟨g,H,b⟩|b
  .exact SM b
  .exact RM (SM (SM b))
  .exact RM (SM (RM (RM (SM b))))
  .exact RM (RM (q g H a b))
  .exact RM (RM (t a b))
 have s:∀a,Kj n x a\/ly o (c.hs++[g]) a->a<h.heap.size->Kj c.bs c.rs a\/ly c.es c.hs a:=fun a d j=>by
  rcases M a d (by omega)with e|e|⟨z,u,e⟩|e
  .exact SM e
  .exact RM e
  .have:=q z u a e;omega
  .have:=t a e;omega
 have D:∀a,Kj n x a\/ly o (c.hs++[g]) a->¬Kj c.dg c.gs a:=fun a d r=>by
  rcases s a d (f.bd.lt a r)with e|e
  .exact f.ap1 a e r
  .exact(f.ap2 a e).2 r
 refine⟨⟨n,c.dg,o,x,c.gs,c.hs++[g]⟩,f.turn l w C I J (F.bd.frame w (fun a d b=>?_)) L (fun a d j=>?_) (fun a d=>D a (SM d)) (fun a d=>⟨(N a d).1,D a (RM d)⟩),K,rfl,by simp,?_⟩
 .have O:=f.low a (RM (SM d));have j:=f.bd.lt a d;rcases b with b|b|b|⟨z,u,b⟩|b
  .omega
  .exact f.ap1 a b d
  .exact(f.ap2 a (SM b)).2 d
  .have:=q z u a b;omega
  .have:=t a b;omega
 .rcases d with d|d|d
  .rcases s a (SM d) j with e|e
   .exact SM e
   .exact RM (RM e)
  .exact RM (SM d)
  .rcases s a (RM d) j with e|e
   .exact SM e
   .exact RM (RM e)
 .refine bj.inside (bj.of_below_all l) w (fun a j d=>?_);rcases C a d with b|b|b
  .exact SM b
  .exact RM b
  .omega
theorem Dj.new{j p:World}{g:Nat}{i o:dj}{l:List tj}{h:Ij}{k:tj}(d:Dj j g i l h)(r:Oz h.V p g o (l++[k]))(s:∀a,k.F a->j.heap.size<=a)(t:∀a,o.val.ownBlock=some a->i.val.ownBlock=some a\/j.heap.size<=a)
  (m:bj (fun a=>a=g\/i.val.ownBlock=some a) j p):Dj p g o (l++[k]) h:=by
 have n:∀a,h.F a->¬(a=g\/i.val.ownBlock=some a):=fun a b c=>by
  have f:=d.low a b;rcases c with c|c
  .omega
  .exact f.2.1 c
 refine⟨r,d.bk.frame m (fun a b=>n a (SM b)),d.bd.frame m (fun a b=>n a (RM (SM b))),d.be.frame m (fun a b=>n a (RM (RM b))),fun a b=>?_,d.ap1,d.ap2⟩;have f:=d.low a b;have v:=d.lt a b;refine⟨f.1,fun c=>?_,fun u e q=>?_⟩
 .rcases t a c with c|c
  .exact f.2.1 c
  .omega
 .rcases fN.1 e with e|e
  .exact f.2.2 u e q
  .simp only[eN]at e;subst e;have:=s a q;omega
theorem Dj.step{n o:World}{p:Nat}{m:dj}{e:List tj}{g:Ij}(c:Dj n p m e g){z:Nat}{d:tj}(k:e[z]? =some d)(l:Cz d n o):∃f,Dj o p m f g/\f.length=e.length:=by
 obtain⟨f,r,s,t⟩:=c.law.step k l;obtain⟨_,_,_,h,_⟩:=l;have w:d∈e:=mN k;have j:∀a,g.F a->¬d.F a:=fun a b q=>(c.low a b).2.2 d w q;refine⟨f,⟨r,c.bk.frame h (fun a b=>j a (SM b)),c.bd.frame h (fun a b=>j a (RM (SM b))),c.be.frame h (fun a b=>j a (RM (RM b))),fun a b=>?_,c.ap1,c.ap2⟩,s⟩;have i:=c.low a b;have D:=c.lt a b;refine⟨i.1,i.2.1,fun A x u=>?_⟩;rcases t A x a u with⟨B,y,v⟩|C
 .exact i.2.2 B y v
 .omega
end
section
attribute [local go_sem↓] Go.wp_at_zero Go.wp_at_succ
def Ij.Grew(b c:Ij)(d:Nat):Prop:=∀a,c.F a->a<d->b.F a
theorem AF(e b d:List UInt8):((vk e b d).2.getD []).length<=12:=by
 unfold vk
 split
 .rcases uU e b d with⟨a,_⟩|⟨f,_,_,_,g,a⟩
  .rw[a];simp
  .rw[a];simp only;cases h:f.find? (fun c=>c.key==b)with
   |none=>simp
   |some c=>simpa using g c (List.mem_of_find?_eq_some h)
 .simp
theorem SJ(b9:List UInt8)(m l:ByteArray)(w:Nat)(a6:dj)(ac:List tj)(k:Ij)(a:World)(b4:Dj a w a6 ac k)(bS:b9.length=8)(bT:m.size<=140737488351232)(ch:l.size<=1000000000)(bI:k.rs.length<=1200000000000):
  CP 11 #[.pointer (some ⟨w,0,none⟩),dV b9,.string m,.string l] a fun c q=>c=.returned (.bool true)/\∃t u,Dj q w a6 ac (k.addB t u)/\k.Grew (k.addB t u) a.heap.size/\bj (fun d=>d=w\/k.F d) a q:=by
 obtain⟨x,y,z,A,B,C,D,E,rfl⟩:=uj b9 bS;have c1:l.size<=140737488351232:=by omega
 have R:Hd (∀(h:World) (G o:dj),BS h G m.data.toList->BS h o l.data.toList->o.n<=o.cap->CP 15 #[dV [x,y,z,A,B,C,D,E],G.val,o.val] h (KL h (vk [x,y,z,A,B,C,D,E] m.data.toList l.data.toList))):=fun h G o F H K=>lF G o _ _ _ h rfl F H K (by simp;unfold maxLen;omega) (by simpa using ch);have S:Hd (∀(h:World) (G o:dj),BS h G m.data.toList->BS h o l.data.toList->o.n<=o.cap->CP 17 #[dV [x,y,z,A,B,C,D,E],G.val,o.val] h (KV h (vk [x,y,z,A,B,C,D,E] m.data.toList l.data.toList))):=fun h G o F H K=>XU G o _ _ _ h rfl F H K (by simp;unfold maxLen;omega);have ca:Hd (((vk [x,y,z,A,B,C,D,E] m.data.toList l.data.toList).2.getD []).length<=12):=AF _ _ _;generalize vk [x,y,z,A,B,C,D,E] m.data.toList l.data.toList=f at*;have aB:Hd (aj (a.alloc (.cells #[.int .u8 x.toNat,.int .u8 y.toNat,.int .u8 z.toNat,.int .u8 A.toNat,.int .u8 B.toNat,.int .u8 C.toNat,.int .u8 D.toNat,.int .u8 E.toNat] 36)) a.heap.size 36 [.int .u8 x.toNat,.int .u8 y.toNat,.int .u8 z.toNat,.int .u8 A.toNat,.int .u8 B.toNat,.int .u8 C.toNat,.int .u8 D.toNat,.int .u8 E.toNat]):=aj.new a _ _;have bi:Hd (BB a (a.alloc (.cells #[.int .u8 x.toNat,.int .u8 y.toNat,.int .u8 z.toNat,.int .u8 A.toNat,.int .u8 B.toNat,.int .u8 C.toNat,.int .u8 D.toNat,.int .u8 E.toNat] 36))):=tO;have T:Hd (Dj a w a6 ac k):=b4;have cb:Hd (k.rs.length<=1200000000000):=bI;have cB:w<a.heap.size:=aj.lt b4.law.row;have cv:(m.size:Int)<=140737488351232:=by omega
 have cA:(l.size:Int)<=1000000000:=by omega
 clear b4 bI bS;unfold dV at R S⊢;unfold fj at R S⊢;simp only[ZM,dN]at R S⊢;generalize (x.toNat:Int)=ba at*;generalize (y.toNat:Int)=bb at*;generalize (z.toNat:Int)=bc at*;generalize (A.toNat:Int)=bd at*;generalize (B.toNat:Int)=be at*;generalize (C.toNat:Int)=bf at*;generalize (D.toNat:Int)=bg at*;generalize (E.toNat:Int)=bh at*;go_enter Tryz.func11,Tryz.ntmps11;go_wp2_with fail;refine(Dx m _ _ bT).mono ?_;rintro c J ⟨W,aa,rfl,a3,Y,c3⟩;have aC:Hd (aj J a.heap.size 36 _):=aj.below aB.o (aj.lt aB.o) Y;simp only[YM]at Y c3 a3;have c5:=Y.size;simp only[YM]at c5;have c8:Hd (BB a J):=bi.o.trans (Y.mono (by omega));clear Y;go_wp2_with fail;refine(Dx l _ _ c1).mono ?_;rintro c i ⟨ak,al,rfl,M,Z,cj⟩;have cn:=Z.size;have b7:lq i (a.heap.size+1) m W aa:=a3.below Z (TM _);have p:Hd (aj i a.heap.size 36 _):=aj.below aC.o (aj.lt aC.o) Z;have ar:Hd (BB a i):=c8.o.trans (Z.mono (by omega));have bw:l.size<=al:=by
  rcases M with⟨_,rfl,c⟩|⟨_,rfl,_⟩
  .rw[c];exact TM _
  .omega
 have Q:=R.o i ⟨W,m.size,aa⟩ ⟨ak,l.size,al⟩ b7.bs M.bs bw;unfold dj.val at Q;have aO:i.cell? ⟨a.heap.size,0,none⟩=some (.int .u8 ba):=aj.cell p.o 0 (by simp);have aP:i.cell? ⟨a.heap.size,1,none⟩=some (.int .u8 bb):=aj.cell p.o 1 (by simp);have aR:i.cell? ⟨a.heap.size,2,none⟩=some (.int .u8 bc):=aj.cell p.o 2 (by simp);have aS:i.cell? ⟨a.heap.size,3,none⟩=some (.int .u8 bd):=aj.cell p.o 3 (by simp);have aT:i.cell? ⟨a.heap.size,4,none⟩=some (.int .u8 be):=aj.cell p.o 4 (by simp);have b0:i.cell? ⟨a.heap.size,5,none⟩=some (.int .u8 bf):=aj.cell p.o 5 (by simp);have b1:i.cell? ⟨a.heap.size,6,none⟩=some (.int .u8 bg):=aj.cell p.o 6 (by simp);have b2:i.cell? ⟨a.heap.size,7,none⟩=some (.int .u8 bh):=aj.cell p.o 7 (by simp);have Q:Hd (Calls _ _ _ _ _):=Q;have bm:Hd (lq i (a.heap.size+1) m W aa):=b7;have bn:Hd (lq i J.heap.size l ak al):=M;have br:Hd (a.heap.size+1<=J.heap.size/\J.heap.size<=i.heap.size):=⟨by omega,by omega⟩;have U:Hd (∀d,W=some ⟨d,0,none⟩->d=a.heap.size+1/\d<J.heap.size):=fun d g=>⟨(a3.lt g).1,by have:=a3.lt g;omega⟩;have a7:Hd (∀d,ak=some ⟨d,0,none⟩->d=J.heap.size/\d<i.heap.size):=fun d g=>⟨(M.lt g).1,by have:=M.lt g;omega⟩;clear b7 M a3 c3 Z cj bw c5 cn R aB aC bi;go_wp2_with fail;refine Q.o.mono ?_;rintro c n ⟨b,rfl,af,bR⟩;unfold dj.val;have a0:Below i.heap.size i (n.alloc (.cells #[.bool f.2.isSome,.slice b.a b.n b.cap] 49)):=af.alloc af.size _;have bA:=bm.o.below a0 (TM _);have bD:=bn.o.below a0 (TM _);have aD:Hd (aj (n.alloc (.cells #[.bool f.2.isSome,.slice b.a b.n b.cap] 49)) a.heap.size 36 _):=aj.below p.o (aj.lt p.o) a0;have an:Hd (aj (n.alloc (.cells #[.bool f.2.isSome,.slice b.a b.n b.cap] 49)) n.heap.size 49 [.bool f.2.isSome,.slice b.a b.n b.cap]):=aj.new n _ _;have ax:Hd (rj (n.alloc (.cells #[.bool f.2.isSome,.slice b.a b.n b.cap] 49)) i.heap.size (.slice b.a b.n b.cap) (f.2.getD [])):=lj bR ((VM n.heap.size _).alloc (TM _) _);have au:Hd (BB a (n.alloc (.cells #[.bool f.2.isSome,.slice b.a b.n b.cap] 49))):=ar.o.trans (a0.mono ar.o.size);have aI:Hd (i.heap.size<=n.heap.size):=af.size
 clear a0 af bR aO aP aR aS aT b0 b1 b2 bm bn Q p;go_wp2_with fail;refine(Ex m W aa (a.heap.size+1) _ bT bA).mono ?_;rintro c am ⟨rfl,L,b8⟩;simp only[YM]at b8;have cl:=br.o;have cm:=aI.o;have av:Hd (BB a am):=au.o.trans (L.below au.o.size (fun d g=>by have:=U.o d g;omega));have aA:Hd (rj am i.heap.size (.slice b.a b.n b.cap) (f.2.getD [])):=ij ax.o L (fun d g c=>by have F:=(ax.o.lt d g).1;have H:=U.o d c;omega);have bE:=bD.frame L (fun c=>by have:=U.o _ c;omega);have aE:Hd (aj am a.heap.size 36 _):=aj.of_block aD.o (L.block _ (aj.lt aD.o) (fun c=>by have:=U.o _ c;omega));have ao:Hd (aj am n.heap.size 49 _):=aj.of_block an.o (L.block _ (aj.lt an.o) (fun c=>by have:=U.o _ c;omega));clear L bA bD ax aD an au;go_wp2_with fail;refine(Ex l ak al J.heap.size _ c1 bE).mono ?_;rintro c j ⟨rfl,a2,ck⟩;have bk:Hd (BB a j):=av.o.trans (a2.below av.o.size (fun d g=>by have:=a7.o d g;omega));have bo:Hd (rj j i.heap.size (.slice b.a b.n b.cap) (f.2.getD [])):=ij aA.o a2 (fun d g c=>by have F:=(aA.o.lt d g).1;have H:=a7.o d c;omega);have s:Hd (aj j a.heap.size 36 _):=aj.of_block aE.o (a2.block _ (aj.lt aE.o) (fun c=>by have:=a7.o _ c;omega));have ap:Hd (aj j n.heap.size 49 _):=aj.of_block ao.o (a2.block _ (aj.lt ao.o) (fun c=>by have:=a7.o _ c;omega));have cc:Hd (j.heap.size=n.heap.size+1):=by unfold Hd;omega
 clear a2 bE aA aE ao av cl cm b8 ck;have aO:j.cell? ⟨a.heap.size,0,none⟩=some (.int .u8 ba):=aj.cell s.o 0 (by simp);have aP:j.cell? ⟨a.heap.size,1,none⟩=some (.int .u8 bb):=aj.cell s.o 1 (by simp);have aR:j.cell? ⟨a.heap.size,2,none⟩=some (.int .u8 bc):=aj.cell s.o 2 (by simp);have aS:j.cell? ⟨a.heap.size,3,none⟩=some (.int .u8 bd):=aj.cell s.o 3 (by simp);have aT:j.cell? ⟨a.heap.size,4,none⟩=some (.int .u8 be):=aj.cell s.o 4 (by simp);have b0:j.cell? ⟨a.heap.size,5,none⟩=some (.int .u8 bf):=aj.cell s.o 5 (by simp);have b1:j.cell? ⟨a.heap.size,6,none⟩=some (.int .u8 bg):=aj.cell s.o 6 (by simp);have b2:j.cell? ⟨a.heap.size,7,none⟩=some (.int .u8 bh):=aj.cell s.o 7 (by simp);have cf:=fun a=>run_bytes_of_string (P:=Tryz.prog) a 9 38 5 m Tryz.underlying9 Tryz.underlying38 Tryz.underlying5;have ce:=fun a=>run_bytes_of_string (P:=Tryz.prog) a 9 38 5 l Tryz.underlying9 Tryz.underlying38 Tryz.underlying5;have cC:a.heap.size<j.heap.size:=aj.lt s.o;have bp:Hd (∀(h:World) (a8:Option Addr) (ai ab:Nat) (a9:Option Addr) (a5 X:Nat),BB j h->BS h ⟨a8,ai,ab⟩ m.data.toList->BS h ⟨a9,a5,X⟩ l.data.toList->a5<=X->CP 17 #[.agg #[.int .u8 ba,.int .u8 bb,.int .u8 bc,.int .u8 bd,.int .u8 be,.int .u8 bf,.int .u8 bg,.int .u8 bh],.slice a8 ai ab,.slice a9 a5 X] h fun c q=>∃N:dj,c=.returned (.tuple #[.agg #[.bool f.2.isSome,.slice N.a N.n N.cap],.int .i64 (f.1:Int)])/\Below j.heap.size j q/\BS q N (f.2.getD [])):=fun h a8 ai ab a9 a5 X I F H K=>(S.o h ⟨a8,ai,ab⟩ ⟨a9,a5,X⟩ F H K).mono (by
  rintro c q ⟨N,rfl,cd,ci⟩;exact⟨N,rfl,I.trans (cd.mono I.size),ci⟩)
 go_wp2_with fail;refine(bp.o _ _ _ _ _ _ _ (by repeat' (first|(with_reducible exact VM _ _)|(with_reducible refine AN ?_)|(with_reducible refine faj ?_ ?_ _)|omega|(simp only[YM,daj];omega))) (by repeat' (first|(with_reducible refine Kv _ _ _ _ _ _ ?_;simp)|(with_reducible refine BS.drew ?_)|(with_reducible refine Px ?_ _))) (by repeat' (first|(with_reducible refine Kv _ _ _ _ _ _ ?_;simp)|(with_reducible refine BS.drew ?_)|(with_reducible refine Px ?_ _))) (grownCap_ge _ _ _ _)).mono ?_;rintro c r ⟨e,rfl,b6,c2⟩;have a1:Below j.heap.size j (r.alloc (.cells #[.bool f.2.isSome,.slice e.a e.n e.cap] 49)):=b6.alloc b6.size _;have O:=aj.below ap.o (aj.lt ap.o) a1;have cp:(r.alloc (.cells #[.bool f.2.isSome,.slice e.a e.n e.cap] 49)).cell? ⟨n.heap.size,0,none⟩=some (.bool f.2.isSome):=aj.cell O 0 (by simp);have cr:(r.alloc (.cells #[.bool f.2.isSome,.slice e.a e.n e.cap] 49)).cell? ⟨n.heap.size,1,none⟩=some (.slice b.a b.n b.cap):=aj.cell O 1 (by simp);have a4:rj (r.alloc (.cells #[.bool f.2.isSome,.slice e.a e.n e.cap] 49)) i.heap.size (.slice b.a b.n b.cap) (f.2.getD []):=lj bo.o a1;have ah:BS (r.alloc (.cells #[.bool f.2.isSome,.slice e.a e.n e.cap] 49)) e (f.2.getD []):=Px c2 _;obtain⟨c0,bO,bP⟩:=rj.sl a4;have ct:=wj (P:=Tryz.prog) (r.alloc (.cells #[.bool f.2.isSome,.slice e.a e.n e.cap] 49)) 38 9 5 b.a b.n b.cap _ Tryz.underlying38 Tryz.underlying5 Tryz.underlying9 bO c0 bP;have cu:=wj (P:=Tryz.prog) (r.alloc (.cells #[.bool f.2.isSome,.slice e.a e.n e.cap] 49)) 38 9 5 e.a e.n e.cap _ Tryz.underlying38 Tryz.underlying5 Tryz.underlying9 ah.n ah.sl ah.nil;have bl:Hd (BB a (r.alloc (.cells #[.bool f.2.isSome,.slice e.a e.n e.cap] 49))):=bk.o.trans (a1.mono bk.o.size);have V:Hd (∀d,(Value.slice b.a b.n b.cap).ownBlock=some d->a.heap.size<=d):=fun d g=>by have F:=(a4.lt d g).1;have:=br.o;omega
 have bB:(f.2.getD []).length<=100000000000000:=WM ca.o (by omega);have c4:i.heap.size<=(r.alloc (.cells #[.bool f.2.isSome,.slice e.a e.n e.cap] 49)).heap.size:=by
  have F:=a1.size;have H:=cc.o;have K:=aI.o;omega
 have c9:Hd (∀h,Below (r.alloc (.cells #[.bool f.2.isSome,.slice e.a e.n e.cap] 49)).heap.size (r.alloc (.cells #[.bool f.2.isSome,.slice e.a e.n e.cap] 49)) h->CP 18 #[.pointer (some ⟨w,1,none⟩),.slice b.a b.n b.cap] h fun c q=>c=.returned (.tuple #[])/\(∃t u,Dj q w a6 ac (k.addB t u)/\k.Grew (k.addB t u) a.heap.size/\bj (fun d=>d=w\/k.F d) a q)/\q.cell? ⟨n.heap.size,1,none⟩=some (.slice b.a b.n b.cap)):=fun h I=>by
  have ag:=bl.o.trans (I.mono bl.o.size);have bv:=T.o.below ag;refine(Nw w a6 k.bs k.dg k.es b k.rs (f.2.getD []) i.heap.size h bv.row bv.bk (lj a4 I) bB cb.o (WM c4 I.size) (fun d g=>⟨by have:=V.o d g;omega,fun c=>by have:=V.o d g;have:=T.o.bk.lt d c;omega⟩) (fun d g=>by have:=(T.o.low d (SM g)).1;omega)).mono ?_;rintro c q ⟨rfl,t,u,ad,b3,ae,bs⟩;have b5:=aj.below O (aj.lt O) I;have cD:=ar.o.size;have b8:=aI.o;have cg:k.Grew (k.addB t u) a.heap.size:=fun d g bC=>by
   rcases g with g|g
   .rcases bs d g (qN bC ag.size)with c|c
    .exact SM c
    .have:=V.o d c;omega
   .exact RM g
  refine⟨rfl,⟨t,u,Dj.moreB (v:=b) T.o ag V.o ad b3 ae bs,cg,?_⟩,aj.cell (aj.of_block b5 (ae.block _ (aj.lt b5) (fun c=>by
   rcases c with c|c|c
   .omega
   .exact xj (lj a4 I) b5 (by decide) c
   .have:=(T.o.bk.own.lt _ c).2;omega))) 1 (by simp)⟩
  exact bj.inside (bj.of_below_all ag) ae (fun d bC g=>by
   rcases g with c|c|c
   .exact SM c
   .have:=V.o d c;omega
   .exact RM (SM (SM c)))
 clear c0 bO bP a4 ah c2 bB a1 O bp cf ce S bo b6 c4 aO aP aR aS aT b0 b1 b2 s ap;generalize f.2.getD []=co at*;generalize f.2.isSome=cs at*;go_wp2_with fail
 go_region_held3 (fun h=>h.cell? ⟨n.heap.size,1,none⟩=some (.slice b.a b.n b.cap)) (go_keep)
  ((go_at_call 18;refine(c9.o _ (by repeat' (first|(with_reducible exact VM _ _)|(with_reducible refine AN ?_)))).mono ?_;rintro c cE ⟨rfl,⟨t,u,ad,bu,b3⟩,ae⟩))
 all_goals
  have c6:Hd _:=ad;have c7:Hd _:=bu;clear ad bu;go_wp2;go_ret;exact⟨rfl,t,u,c6.o,c7.o,b3⟩
end
end Go.Proofs.YtekegfbjbainhaaGreat
