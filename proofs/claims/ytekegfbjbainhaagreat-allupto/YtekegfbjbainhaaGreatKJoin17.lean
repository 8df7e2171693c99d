import Derived.Test.YtekegfbjbainhaaGreatKLog5
import Derived.BigQuiet
import Derived.Test.YtekegfbjbainhaaGreatKJoin6
import Derived.Deep.RegionLaw
import Derived.Deep.DrawnRows
set_option maxRecDepth 100000
set_option maxHeartbeats 4000000
set_option linter.unusedVariables false
set_option linter.unusedSimpArgs false
namespace Go.Proofs.YtekegfbjbainhaaGreat
open Go.RowKit
section
attribute [local go_sem↓] Go.wp_at_zero Go.wp_at_succ
def Vj(b:Int)(a:List UInt8):Value:=.agg (Value.int .i64 b::a.map fj).toArray
def aJ(b a:Int)(e d:List UInt8)(c:List (List UInt8)):Bool:=if a<0\/b<=a then false else(Zq a.toNat b.toNat d c).2&&((Zq a.toNat b.toNat d c).1==e)
theorem yy(b c d e f g h i j k l m n o p q:UInt8)(a:World):(Op.equalIn 10000 36 (.agg (cO b c d e f g h i)) (.agg (cO j k l m n o p q))).run Tryz.prog a=.ok ([b,c,d,e,f,g,h,i]==[j,k,l,m,n,o,p,q]) a:=
 run_equalIn_bytes (P:=Tryz.prog) a 9998 36 5 8 Tryz.underlying36 Tryz.underlying5 Tryz.sizeU8 [b,c,d,e,f,g,h,i] [j,k,l,m,n,o,p,q] rfl rfl
theorem XY(b a:Int)(d c:List UInt8)(f:Option Addr)(k g:Nat)(e:World)(j:d.length=8)(i:c.length=8)(n:a<0\/b<=a):
  CP 75 #[Vj b d,.int .i64 a,dV c,.slice f k g] e fun l m=>l=.returned (.bool false)/\Below e.heap.size e m:=by
 obtain⟨q,r,s,t,u,v,w,x,rfl⟩:=uj d j;obtain⟨y,z,A,B,C,D,E,F,rfl⟩:=uj c i;unfold Vj dV fj;simp only[ZM,dN];by_cases h:a<0
 .go_enter Tryz.func75,Tryz.ntmps75;go_wp2;go_ret;exact⟨rfl,tO.alloc (by simp) _⟩
 .have o:b<=a:=by omega
  have p:¬a<0:=h;go_enter Tryz.func75,Tryz.ntmps75;go_wp2;go_ret;exact⟨rfl,tO.alloc (by simp) _⟩
theorem vY(b l:Nat)(y k:List UInt8)(n:List (List UInt8))(z:Option Addr)(x:Nat)(a:World)(N:y.length=8)(E:k.length=8)(L:b<=9223372036854775807)(J:l<b)(M:tq a z n.reverse)(K:n.length<=x)(I:x<=9223372036854775807):
  CP 75 #[Vj b y,.int .i64 l,dV k,.slice z n.length x] a fun F S=>F=.returned (.bool ((Zq l b k n).2&&((Zq l b k n).1==y)))/\Below a.heap.size a S:=by
 obtain⟨p,q,r,s,t,u,v,w,rfl⟩:=uj y N;have A:Below a.heap.size a ((a.alloc (.cells ((Value.int .i64 b::[p,q,r,s,t,u,v,w].map fj).toArray) 98)).alloc (.cells (k.map fj).toArray 36)):=tO.alloc (by simp) _;have C:Hd (Calls _ _ _ _ _):=IZ n b l k z x _ (M.below A) K I E (by omega) L J;have H:aj ((a.alloc (.cells ((Value.int .i64 b::[p,q,r,s,t,u,v,w].map fj).toArray) 98)).alloc (.cells (k.map fj).toArray 36)) a.heap.size 98 (Value.int .i64 b::[p,q,r,s,t,u,v,w].map fj):=(aj.new a _ _).alloc _;have D:=xy n l b k;generalize Zq l b k n=P at*;obtain⟨Q,R⟩:=P;simp only at D C⊢;obtain⟨c,d,e,f,g,h,i,j,rfl⟩:=uj Q D;obtain⟨a5,a6,a7,a8,a9,aa,ab,ac,rfl⟩:=uj k E;have a4:=yy c d e f g h i j p q r s t u v w;have a2:¬(l:Int)<0:=by omega
 have a3:¬(b:Int)<=l:=by omega
 unfold Vj dV fj at*;simp only[ZM,dN]at*;generalize ([c,d,e,f,g,h,i,j]==[p,q,r,s,t,u,v,w])=a1 at*;go_enter Tryz.func75,Tryz.ntmps75;go_wp2_with fail;refine C.o.mono ?_;rintro F o ⟨rfl,B⟩;have G:=aj.past B H;have m:=G.alloc (.cells (cO c d e f g h i j) 36);have T:(o.alloc (.cells (cO c d e f g h i j) 36)).cell? ⟨a.heap.size,1,none⟩=some (.int .u8 p.toNat):=aj.cell? m 1;have U:(o.alloc (.cells (cO c d e f g h i j) 36)).cell? ⟨a.heap.size,2,none⟩=some (.int .u8 q.toNat):=aj.cell? m 2;have V:(o.alloc (.cells (cO c d e f g h i j) 36)).cell? ⟨a.heap.size,3,none⟩=some (.int .u8 r.toNat):=aj.cell? m 3;have W:(o.alloc (.cells (cO c d e f g h i j) 36)).cell? ⟨a.heap.size,4,none⟩=some (.int .u8 s.toNat):=aj.cell? m 4;have X:(o.alloc (.cells (cO c d e f g h i j) 36)).cell? ⟨a.heap.size,5,none⟩=some (.int .u8 t.toNat):=aj.cell? m 5;have Y:(o.alloc (.cells (cO c d e f g h i j) 36)).cell? ⟨a.heap.size,6,none⟩=some (.int .u8 u.toNat):=aj.cell? m 6;have Z:(o.alloc (.cells (cO c d e f g h i j) 36)).cell? ⟨a.heap.size,7,none⟩=some (.int .u8 v.toNat):=aj.cell? m 7;have a0:(o.alloc (.cells (cO c d e f g h i j) 36)).cell? ⟨a.heap.size,8,none⟩=some (.int .u8 w.toNat):=aj.cell? m 8;have O:=B.size;simp only[YM]at O;cases R
 all_goals
  go_wp2;go_ret;exact⟨rfl,(A.trans (B.mono A.size)).alloc (by omega) _⟩
theorem wY(b a:Int)(g f:List UInt8)(c:List (List UInt8))(h:Option Addr)(e:Nat)(d:World)(m:g.length=8)(l:f.length=8)(s:b<=9223372036854775807)(p:tq d h c.reverse)(o:c.length<=e)(n:e<=9223372036854775807):
  CP 75 #[Vj b g,.int .i64 a,dV f,.slice h c.length e] d fun q r=>q=.returned (.bool (aJ b a g f c))/\Below d.heap.size d r:=by
 unfold aJ;by_cases j:a<0\/b<=a
 .rw[if_pos j];exact XY b a g f h c.length e d m l j
 .rw[if_neg j];obtain⟨k,rfl⟩:∃k:Nat,b=k:=⟨b.toNat,by omega⟩;obtain⟨i,rfl⟩:∃i:Nat,a=i:=⟨a.toNat,by omega⟩;simp only[Jaj];exact vY k i g f c h e d m l (by omega) (by omega) p o n
theorem rG(b a:Int)(d c:List UInt8)(f:Option Addr)(k g:Nat)(e:World)(j:d.length=8)(i:c.length=8)(n:a<0\/b<=a):
  CP 111 #[Vj b d,.int .i64 a,dV c,.slice f k g] e fun l m=>l=.returned (.bool false)/\Below e.heap.size e m:=by
 obtain⟨q,r,s,t,u,v,w,x,rfl⟩:=uj d j;obtain⟨y,z,A,B,C,D,E,F,rfl⟩:=uj c i;unfold Vj dV fj;simp only[ZM,dN];by_cases h:a<0
 .go_enter Tryz.func111,Tryz.ntmps111;go_wp2;go_ret;exact⟨rfl,tO.alloc (by simp) _⟩
 .have o:b<=a:=by omega
  have p:¬a<0:=h;go_enter Tryz.func111,Tryz.ntmps111;go_wp2;go_ret;exact⟨rfl,tO.alloc (by simp) _⟩
theorem RU(b l:Nat)(y k:List UInt8)(n:List (List UInt8))(z:Option Addr)(x:Nat)(a:World)(N:y.length=8)(E:k.length=8)(L:b<=9223372036854775807)(J:l<b)(M:tq a z n.reverse)(K:n.length<=x)(I:x<=9223372036854775807):
  CP 111 #[Vj b y,.int .i64 l,dV k,.slice z n.length x] a fun F S=>F=.returned (.bool ((Zq l b k n).2&&((Zq l b k n).1==y)))/\Below a.heap.size a S:=by
 obtain⟨p,q,r,s,t,u,v,w,rfl⟩:=uj y N;have A:Below a.heap.size a ((a.alloc (.cells ((Value.int .i64 b::[p,q,r,s,t,u,v,w].map fj).toArray) 98)).alloc (.cells (k.map fj).toArray 36)):=tO.alloc (by simp) _;have C:Hd (Calls _ _ _ _ _):=KZ n b l k z x _ (M.below A) K I E (by omega) L J;have H:aj ((a.alloc (.cells ((Value.int .i64 b::[p,q,r,s,t,u,v,w].map fj).toArray) 98)).alloc (.cells (k.map fj).toArray 36)) a.heap.size 98 (Value.int .i64 b::[p,q,r,s,t,u,v,w].map fj):=(aj.new a _ _).alloc _;have D:=xy n l b k;generalize Zq l b k n=P at*;obtain⟨Q,R⟩:=P;simp only at D C⊢;obtain⟨c,d,e,f,g,h,i,j,rfl⟩:=uj Q D;obtain⟨a5,a6,a7,a8,a9,aa,ab,ac,rfl⟩:=uj k E;have a4:=yy c d e f g h i j p q r s t u v w;have a2:¬(l:Int)<0:=by omega
 have a3:¬(b:Int)<=l:=by omega
 unfold Vj dV fj at*;simp only[ZM,dN]at*;generalize ([c,d,e,f,g,h,i,j]==[p,q,r,s,t,u,v,w])=a1 at*;go_enter Tryz.func111,Tryz.ntmps111;go_wp2_with fail;refine C.o.mono ?_;rintro F o ⟨rfl,B⟩;have G:=aj.past B H;have m:=G.alloc (.cells (cO c d e f g h i j) 36);have T:(o.alloc (.cells (cO c d e f g h i j) 36)).cell? ⟨a.heap.size,1,none⟩=some (.int .u8 p.toNat):=aj.cell? m 1;have U:(o.alloc (.cells (cO c d e f g h i j) 36)).cell? ⟨a.heap.size,2,none⟩=some (.int .u8 q.toNat):=aj.cell? m 2;have V:(o.alloc (.cells (cO c d e f g h i j) 36)).cell? ⟨a.heap.size,3,none⟩=some (.int .u8 r.toNat):=aj.cell? m 3;have W:(o.alloc (.cells (cO c d e f g h i j) 36)).cell? ⟨a.heap.size,4,none⟩=some (.int .u8 s.toNat):=aj.cell? m 4;have X:(o.alloc (.cells (cO c d e f g h i j) 36)).cell? ⟨a.heap.size,5,none⟩=some (.int .u8 t.toNat):=aj.cell? m 5;have Y:(o.alloc (.cells (cO c d e f g h i j) 36)).cell? ⟨a.heap.size,6,none⟩=some (.int .u8 u.toNat):=aj.cell? m 6;have Z:(o.alloc (.cells (cO c d e f g h i j) 36)).cell? ⟨a.heap.size,7,none⟩=some (.int .u8 v.toNat):=aj.cell? m 7;have a0:(o.alloc (.cells (cO c d e f g h i j) 36)).cell? ⟨a.heap.size,8,none⟩=some (.int .u8 w.toNat):=aj.cell? m 8;have O:=B.size;simp only[YM]at O;cases R
 all_goals
  go_wp2;go_ret;exact⟨rfl,(A.trans (B.mono A.size)).alloc (by omega) _⟩
theorem SU(b a:Int)(g f:List UInt8)(c:List (List UInt8))(h:Option Addr)(e:Nat)(d:World)(m:g.length=8)(l:f.length=8)(s:b<=9223372036854775807)(p:tq d h c.reverse)(o:c.length<=e)(n:e<=9223372036854775807):
  CP 111 #[Vj b g,.int .i64 a,dV f,.slice h c.length e] d fun q r=>q=.returned (.bool (aJ b a g f c))/\Below d.heap.size d r:=by
 unfold aJ;by_cases j:a<0\/b<=a
 .rw[if_pos j];exact rG b a g f h c.length e d m l j
 .rw[if_neg j];obtain⟨k,rfl⟩:∃k:Nat,b=k:=⟨b.toNat,by omega⟩;obtain⟨i,rfl⟩:∃i:Nat,a=i:=⟨a.toNat,by omega⟩;simp only[Jaj];exact RU k i g f c h e d m l (by omega) (by omega) p o n
theorem sG(b f:Int)(e d:List UInt8)(c:List (List UInt8))(h:Option Addr)(g:Nat)(a:World)(k:e.length=8)(j:d.length=8)(q:b<=9223372036854775807)(r:tq a h c.reverse)(p:c.length<=g)(o:g<=9223372036854775807):
  CP 73 #[Vj b e,.int .i64 f,dV d,.slice h c.length g] a fun l A=>l=.returned (.bool (aJ b f e d c))/\Below a.heap.size a A:=by
 have i:Below a.heap.size a ((a.alloc (.cells ((Value.int .i64 b::e.map fj).toArray) 98)).alloc (.cells (d.map fj).toArray 36)):=tO.alloc (by simp) _;have m:Hd (Calls _ _ _ _ _):=SU b f e d c h g _ k j q (r.below i) p o;obtain⟨s,t,u,v,w,x,y,z,rfl⟩:=uj e k;obtain⟨B,C,D,E,F,G,H,I,rfl⟩:=uj d j;generalize aJ b f [s,t,u,v,w,x,y,z] [B,C,D,E,F,G,H,I] c=l at*;unfold Vj dV fj at*;simp only[ZM,dN]at*;go_enter Tryz.func73,Tryz.ntmps73;go_wp2_with fail;refine m.o.mono ?_;rintro f J ⟨rfl,n⟩;go_wp2;go_ret;exact⟨rfl,i.trans (n.mono i.size)⟩
theorem tq.at{i:World}{j:Option Addr}{b:List (List UInt8)}(d:tq i j b)(a:Nat)(l:a<b.length):∃c e,j=some ⟨c,e,none⟩/\c<i.heap.size/\i.rangeAt c (e+a*8) (b[a].map fj):=by
 have u:=mq b d.2;obtain⟨c,e,f,o,_⟩:=d.1 (a*8) (by omega);subst f;have g:=d.drop a (by omega);refine⟨c,e,rfl,o,fun m v h=>?_⟩;obtain⟨k,h⟩:=kN.1 h;have s:b[a].length=8:=d.2 _ (bN l);have n:b.drop a=b[a]::b.drop (a+1):=naj l;rw[n]at g;have q:m<(qj (b[a]::b.drop (a+1))).length:=by
  rw[mq _ g.2];simp at k⊢;omega
 obtain⟨r,w,f,t,p⟩:=g.1 m q;cases f;rw[p,<-h]
 congr 1
 simp only[qj,JN];rw[kaj (by simpa using k)]
theorem mJ(c:List (List UInt8))(v w:Option Addr)(A B:Nat)(b:World)(y:tq b v c)(D:tq b w c)(L:c.length<=9223372036854775807):
  CP 52 #[.slice v c.length A,.slice w c.length B] b fun C E=>C=.returned (.bool true)/\∃j,E=b.drewN j:=by
 have M:(c.length:Int)<=9223372036854775807:=by omega
 have N:((c.length:Int)!=(c.length:Int))=false:=by simp
 go_enter Tryz.func52,Tryz.ntmps52;go_wp2
 go_loopw [5] (fun u wr=>∃(a j:Nat),a<=c.length/\u=.int .i64 a/\wr=b.drewN j) (fun u _=>c.length - (intOf u).toNat)
 case atStart=>exact⟨0,0,by omega,by simp,rfl⟩
 case round=>
  obtain⟨a,j,J,rfl,rfl⟩:=hrel;by_cases t:a<c.length
  .obtain⟨f,h,rfl,F,d⟩:=y.at a t;obtain⟨g,i,rfl,G,e⟩:=D.at a t;obtain⟨k,l,m,n,o,p,q,r,z⟩:=uj c[a] (y.2 _ (bN t));rw[z]at d e;have H:∀s,(Op.equalIn 10000 36 (.agg (cO k l m n o p q r)) (.agg (cO k l m n o p q r))).run Tryz.prog s=.ok true s:=fun s=>by
    have x:=yy k l m n o p q r k l m n o p q r s;rw[beq_self_eq_true]at x;exact x
   have K:(a:Int)<c.length:=by omega
   have O:b.cell? ⟨f,h+a*8,none⟩=some (.int .u8 k.toNat):=d 0 _ rfl;have W:b.cell? ⟨g,i+a*8,none⟩=some (.int .u8 k.toNat):=e 0 _ rfl;have P:b.cell? ⟨f,h+a*8+1,none⟩=some (.int .u8 l.toNat):=d 1 _ rfl;have X:b.cell? ⟨g,i+a*8+1,none⟩=some (.int .u8 l.toNat):=e 1 _ rfl;have Q:b.cell? ⟨f,h+a*8+2,none⟩=some (.int .u8 m.toNat):=d 2 _ rfl;have Y:b.cell? ⟨g,i+a*8+2,none⟩=some (.int .u8 m.toNat):=e 2 _ rfl;have R:b.cell? ⟨f,h+a*8+3,none⟩=some (.int .u8 n.toNat):=d 3 _ rfl;have Z:b.cell? ⟨g,i+a*8+3,none⟩=some (.int .u8 n.toNat):=e 3 _ rfl;have S:b.cell? ⟨f,h+a*8+4,none⟩=some (.int .u8 o.toNat):=d 4 _ rfl;have a0:b.cell? ⟨g,i+a*8+4,none⟩=some (.int .u8 o.toNat):=e 4 _ rfl;have T:b.cell? ⟨f,h+a*8+5,none⟩=some (.int .u8 p.toNat):=d 5 _ rfl;have a1:b.cell? ⟨g,i+a*8+5,none⟩=some (.int .u8 p.toNat):=e 5 _ rfl;have U:b.cell? ⟨f,h+a*8+6,none⟩=some (.int .u8 q.toNat):=d 6 _ rfl;have a2:b.cell? ⟨g,i+a*8+6,none⟩=some (.int .u8 q.toNat):=e 6 _ rfl;have V:b.cell? ⟨f,h+a*8+7,none⟩=some (.int .u8 r.toNat):=d 7 _ rfl;have a3:b.cell? ⟨g,i+a*8+7,none⟩=some (.int .u8 r.toNat):=e 7 _ rfl;clear d e z;go_wp2;go_quiet (fail);go_wp2;refine⟨⟨a+1,j+nq,by omega,by go_num,rfl⟩,by simp[intOf];omega⟩
  .have I:¬(a:Int)<c.length:=by omega
   go_wp2;go_ret;exact⟨rfl,j,rfl⟩
end
section
def Jj(b:Nat->Value)(a:Nat):List Value:=(List.range a).map b
theorem Iq(b:Nat->Value)(a:Nat):(Jj b a).length=a:=by simp[Jj]
theorem YY(c:Nat->Value)(b a:Nat)(d:a<b):(Jj c b)[a]? =some (c a):=by simp[Jj,d]
theorem ZY(b:Nat->Value)(a c:Nat):Jj b (a+c)=Jj b a++Jj (fun d=>b (a+d)) c:=by
 unfold Jj;rw[List.range_add,rN,Baj];rfl
def Pq(c:Nat->Value)(d e:World):Prop:=∀b a,b<d.heap.size->d.cell? ⟨b,a,none⟩=some (c a)->e.cell? ⟨b,a,none⟩=some (c a)
theorem Pq.trans{c:Nat->Value}{a b d:World}(g:Pq c a b)(j:Pq c b d)(k:a.heap.size<=b.heap.size):Pq c a d:=fun e f i h=>j e f (by omega) (g e f i h)
theorem Pq.below{f:Nat->Value}{w w':World}(b:Below w.heap.size w w'):Pq f w w':=fun a e c d=>by rw[b.cell (p:=⟨a,e,none⟩) c];exact d
theorem uW{P:Program}(c:World)(v:Nat)(s E f:TypeId)(b:TypeInfo)(t:Value)(k bytes:Nat)(M:P.underlying s=some (.slice f))(H:P.info? f=some b)(a2:b.zero=some t)
  (ae:b.size=k)(a8:b.bytes=bytes)(af:t.cells.size=k)(am:0<k)(h:Nat->Value)(y:Value)(a:Nat)(r:c.ownsRow v f k y a (Jj h (a*k)))
  (u:Addr)(d A:Nat)(J:∀e o,(Jj (fun e=>h (a*k+e)) (d*k))[e]? =some o->c.cell? (u.add e)=some o)(a4:∀e,(h e).oneCell'=true)(ai:0<d)
  (Q:a+d<=maxLen)(U:(a+d)*bytes<=140737488355328)(a7:v<=c.heap.size):
  ∃F z,(Builtin.append_ #[s,s] E #[y,.slice (some u) d A]).run P c=.ok F z/\z.ownsRow v f k F (a+d) (Jj h ((a+d)*k))/\bj (fun x=>y.ownBlock=some x) c z/\(F.ownBlock=y.ownBlock\/F.ownBlock=some c.heap.size)/\Pq h c z/\z.ownsRow v f k y a (Jj h (a*k)):=by
 subst ae;subst a8;have al:a+d<=9223372036854775807:=by simp only[maxLen]at Q;omega
 have a6:Jj h ((a+d)*b.size)=Jj h (a*b.size)++Jj (fun e=>h (a*b.size+e)) (d*b.size):=by rw[Nat.add_mul,ZY]
 generalize K:Jj (fun e=>h (a*b.size+e)) (d*b.size)=i at*;have q:i.length=d*b.size:=by rw[<-K,Iq]
 have a5:∀o∈i,o.oneCell'=true:=fun o a1=>by
  rw[<-K]at a1;obtain⟨e,_,rfl⟩:=vN.1 a1;exact a4 _
 have D:(Jj h (a*b.size)++i).length=(a+d)*b.size:=by rw[XM,Iq,q,Nat.add_mul]
 have O:∀(n:Nat),n<a+d->∀(ag:Option Nat),
   (c.drew.alloc (.cells ((Jj h (a*b.size)).toArray++i.toArray++Builtin.zeroCells t.cells (grownCap c (a+d) n f - (a+d))) f)).ownsRow v f b.size
    (.slice (some ⟨c.heap.size,0,none⟩) (a+d) (grownCap c (a+d) n f)) (a+d) (Jj h (a*b.size)++i)/\
   Below c.heap.size c (c.drew.alloc (.cells ((Jj h (a*b.size)).toArray++i.toArray++Builtin.zeroCells t.cells (grownCap c (a+d) n f - (a+d))) f)):=by
  intro n ak ag;have ab:=grownCap_ge c (a+d) n f;have B:grownCap c (a+d) n f<=maxLen:=grownCap_le_maxLen c (a+d) n f Q;refine⟨⟨D,.inr ⟨c.heap.size,_,_,rfl,a7,heap_alloc_new c.drew _,ab,B,?_,?_⟩⟩,⟨rfl,rfl,rfl,by simp,fun x I=>Below.heap_alloc c.drew _ x I⟩⟩
  .simp only[Array.size_append,List.size_toArray,size_zeroCells,af,Iq,q,<-Nat.add_mul]
   congr 1
   omega
  .simp only[Array.toList_append,NN];rw[<-NN,<-D];exact List.take_left
 rw[a6];rcases r.2 with⟨rfl,rfl⟩|⟨l,p,j,rfl,S,C,ac,B,a9,N⟩
 .have w:=run_append_nil (P:=P) c s E f b t M H a2 u d A i q J (by omega) (by omega) (by have R:=U;simp only[sN]at R;omega);have m:=O 0 (by omega) none;have a3:Jj h (0*b.size)=[]:=by simp[Jj]
  rw[a3]at m r⊢;simp only[sN,ON,Array.empty_append]at m⊢;exact⟨_,_,w,m.1,bj.of_below_all m.2,RM rfl,Pq.below m.2,iN _ _ _ _⟩
 .by_cases L:a+d<=p
  .have aa:a*b.size+i.length<=j.size:=by rw[q,a9,<-Nat.add_mul];exact cbj _ L
   have w:=run_append_room (P:=P) c s E f b M H l a p j C u d A i q J a5 L aa;have Y:=setRow_heap c l j (j.toList.take (a*b.size)++i++j.toList.drop (a*b.size+i.length)).toArray f _ C;have X:(j.toList.take (a*b.size)++i++j.toList.drop (a*b.size+i.length)).length=p*b.size:=by
    simp only[XM,aN,oN,Raj];omega
   refine⟨_,_,w,⟨D,.inr ⟨l,p,_,rfl,S,Y,L,B,?_,?_⟩⟩,⟨rfl,rfl,rfl,by simp,fun x _ I=>setRow_other c l x _ (fun f=>I (by simp[Value.ownBlock,f]))⟩,SM rfl,?_,⟨r.1,.inr ⟨l,p,_,rfl,S,Y,ac,B,?_,?_⟩⟩⟩
   .rw[List.size_toArray];exact X
   .rw[N,<-D];exact List.take_left
   .intro G e R V;by_cases T:G=l
    .subst T;rw[cell_setRow_same c G e j _ f _ C];have W:j[e]? =some (h e):=by
      rw[<-V];simp[World.cell?,C]
     rw[List.getElem?_toArray];have ah:e<j.size:=(SN.1 W).1;rw[N];by_cases Z:e<a*b.size
     .rw[NN,DN (by rw[Iq];exact Z)];exact YY h _ e Z
     .by_cases a0:e<a*b.size+i.length
      .rw[DN (by rw[XM,Iq];exact a0),MN (by rw[Iq];omega),Iq,<-K,YY _ _ _ (by rw[q]at a0;omega)];rw[show a*b.size+(e - a*b.size)=e by omega]
      .rw[MN (by rw[XM,Iq];omega),XM,Iq,oaj,show a*b.size+i.length+(e - (a*b.size+i.length))=e by omega];rw[vaj];exact W
    .rw[cell_setRow_other c l _ ⟨G,e,none⟩ T];exact V
   .rw[List.size_toArray];exact X
   .rw[N,NN];have:=List.take_left (l₁:=Jj h (a*b.size)) (l₂:=i++j.toList.drop (a*b.size+i.length));rw[Iq]at this;exact this
  .have ad:∀e o,(Jj h (a*b.size))[e]? =some o->c.cell? ((⟨l,0,none⟩:Addr).add e)=some o:=r.cells (g:=l) rfl;have w:=run_append_grow (P:=P) c s E f b t M H a2 ⟨l,0,none⟩ a p (Jj h (a*b.size)) r.1 ad u d A i q J (by omega) (by omega) (growslice_fits (by omega) U);have m:=O p (by omega) none;exact⟨_,_,w,m.1,bj.of_below_all m.2,RM rfl,Pq.below m.2,lj r m.2⟩
theorem uv{k:Program}{d:World}{x:Array Oper}{rest:List Oper}{o:Oper}{p:Act}{t:Exit->Act->World->Prop}(N:o.guard=none)(y z:Operand)(q:TypeId)
  (W:o.op=.call {callee:=.builtin .append,args:=#[y,z],argTypes:=#[q,q]})
  (l:Nat)(i:TypeId)(s:Value)(c bytes:Nat)(a2:k.underlying q=some (.slice i))(O:(k.info? i).map (fun m=>(m.zero,m.size,m.bytes))=some (some s,c,bytes))(a5:s.cells.size=c)(a1:0<c)
  (e:Nat->Value)(j:Value)(a:Nat)(Z:p.eval y=j)(X:d.ownsRow l i c j a (Jj e (a*c)))
  (r:Addr)(b u:Nat)(a3:p.eval z=.slice (some r) b u)(V:jj d (some r) (Jj (fun n=>e (a*c+n)) (b*c)))(B:∀n,(e n).oneCell'=true)(U:0<b)
  (G:a+b<=maxLen)(L:(a+b)*bytes<=140737488355328)(J:l<=d.heap.size)
  (A:∀g h f,f.ownsRow l i c (.slice g (a+b) h) (a+b) (Jj e ((a+b)*c))->bj (fun w=>j.ownBlock=some w) d f->((Value.slice g (a+b) h).ownBlock=j.ownBlock\/(Value.slice g (a+b) h).ownBlock=some d.heap.size)->Pq e d f->f.ownsRow l i c j a (Jj e (a*c))->wpList k x t rest (p.put o.dst (.slice g (a+b) h)) f):
  wpList k x t (o::rest) p d:=by
 obtain⟨m,Q,a4,a0,K⟩:=info_parts O;obtain⟨a9,f,Y,v,C,D,E,F⟩:=uW (P:=k) d l q o.type i m s c bytes a2 Q a4 a0 K a5 a1 e j a X r b u (fun n a8 R=>by
  obtain⟨S,T⟩:=kN.1 R;obtain⟨a7,w,I,_,M⟩:=V n S;cases I;rw[mx,M,T]) B U G L J
 obtain⟨g,h,rfl,_⟩:=Nj v;refine wpList_plain N fun a6 H=>?_;unfold Oper.wp execOp;simp only[W,resolve,invoke,builtin,Sem.run_bind,Sem.run_pure,Result.andThen_ok,List.map_toArray,ZM,dN,Z,a3,Y];exact H _ _ (A g h f v C D E F)
def vz(d:World)(e:Nat->Value)(f:Nat)(c:dj):Prop:=∀b,b<c.n*f->∃a,c.a=some ⟨a,0,none⟩/\a<d.heap.size/\d.cell? ⟨a,b,none⟩=some (e b)
theorem vz.keep{b c:World}{a:Nat->Value}{g:Nat}{f:dj}(h:vz b a g f)(m:Pq a b c)(n:b.heap.size<=c.heap.size):vz c a g f:=fun e l=>by
 obtain⟨d,i,j,k⟩:=h e l;exact⟨d,i,by omega,m d e j k⟩
theorem vz.frame{d e:World}{S:Nat->Prop}{k:Nat->Value}{l:Nat}{c:dj}(m:vz d k l c)(h:bj S d e)(o:∀j,c.val.ownBlock=some j->¬S j):vz e k l c:=fun i p=>by
 obtain⟨b,f,g,n⟩:=m i p;refine⟨b,f,qN g h.size,?_⟩;rw[UN (w:=d) (w':=e) (a:=⟨b,i,none⟩) (h.block b g (o b (by unfold dj.val;rw[f];rfl)))];exact n
theorem vz.own{i:World}{h:Nat->Value}{k l e g:Nat}{s:dj}(c:i.ownsRow k l e s.val g (Jj h (g*e))):vz i h e s:=fun q n=>by
 have o:=(vj (a:=s.a) (n':=s.n) (cap:=s.cap) c).1;obtain⟨p,_⟩:=jj.ofOwn (s:=s) c;obtain⟨j,t,d,m,f⟩:=p q (by rw[Iq,<-o];exact n);rcases(vj (a:=s.a) (n':=s.n) (cap:=s.cap) c).2.2.2 with⟨b,_⟩|⟨r,b,_,_⟩
 .rw[d]at b;cases b
 .rw[d]at b;cases b;refine⟨j,d,m,?_⟩;rw[sN]at f;rw[f];simp[Jj]
def wv(a:Nat):Nat->Value:=fun _=>.int .u8 ((a:Int)%251)
theorem iw(a:dj)(c:Nat)(d:World)(f:vz d (wv c) 1 a)(t:a.n<=140737488355328)(r:c<=140737488355328):
  CP 57 #[a.val,.int .i64 c] d fun i m=>i=.returned (.bool true)/\m=d:=by
 have s:(c:Int)<=140737488355328:=by omega
 have u:(a.n:Int)<=140737488355328:=by omega
 have h:Hd (vz d (wv c) 1 a):=f;clear f;unfold dj.val;go_enter Tryz.func57,Tryz.ntmps57;go_wp2
 go_loop [5] (fun e=>∃b:Nat,b<=a.n/\e=.int .i64 b) (fun e=>a.n - (intOf e).toNat)
 case atStart=>exact⟨0,by omega,rfl⟩
 case round=>
  obtain⟨b,p,rfl⟩:=hrel;by_cases q:b<a.n
  .have l:(b:Int)<a.n:=by omega
   obtain⟨j,k,o,g⟩:=h.o b (by omega);have n:d.cell? ⟨j,b,none⟩=some (.int .u8 ((c:Int)%251)):=g;rw[k];clear g;go_wp2
   go_round
   case rel=>exact⟨b+1,by omega,by go_num⟩
   case measure=>simp[intOf];omega
  .have l:¬(b:Int)<a.n:=by omega
   go_wp2;go_ret;exact⟨rfl,rfl⟩
structure Yq where
 l:dj
 one:dj
 two:dj
 three:dj
abbrev rO(r:Yq)(i:Int):Array Value:=#[.slice r.l.a r.l.n r.l.cap,.slice r.one.a r.one.n r.one.cap,.slice r.two.a r.two.n r.two.cap,.slice r.three.a r.three.n r.three.cap,.int .i64 i]
def qz(a:Yq)(b:Nat):List Value:=[a.l.val,a.one.val,a.two.val,a.three.val,.int .i64 b]
def cy(b:Yq)(a:Nat):Prop:=b.l.val.ownBlock=some a\/b.one.val.ownBlock=some a\/b.two.val.ownBlock=some a\/b.three.val.ownBlock=some a
structure Sv(w:World)(pat:Nat->Value)(size:Nat)(r:Yq):Prop where
 l:vz w pat size r.l
 one:vz w pat size r.one
 two:vz w pat size r.two
 three:vz w pat size r.three
 nl:r.l.n<=100000000000010
 n1:r.one.n<=100000000000010
 n2:r.two.n<=100000000000010
 n3:r.three.n<=100000000000010
 lt:∀k,cy r k->k<w.heap.size
theorem Sv.frame{i j:World}{S:Nat->Prop}{g:Nat->Value}{h:Nat}{f:Yq}(b:Sv i g h f)(d:bj S i j)(e:∀a,cy f a->¬S a):Sv j g h f:=
 ⟨b.l.frame d (fun a c=>e a (SM c)),b.one.frame d (fun a c=>e a (RM (SM c))),b.two.frame d (fun a c=>e a (RM (RM (SM c)))),b.three.frame d (fun a c=>e a (RM (RM (RM c)))),b.nl,b.n1,b.n2,b.n3,fun a c=>qN (b.lt a c) d.size⟩
theorem Sv.below{w w':World}{a:Nat->Value}{c:Nat}{b:Yq}(e:Sv w a c b)(f:Below w.heap.size w w'):Sv w' a c b:=e.frame (bj.of_below_all (S:=fun _=>False) f) (fun _ _ d=>d)
theorem tG(b:Yq)(a:Nat)(c:World)(d:Sv c (wv a) 1 b)(g:a<=140737488355328):
  CP 24 #[.agg (qz b a).toArray] c fun e n=>e=.returned (.bool true)/\Below c.heap.size c n:=by
 have m:Below c.heap.size c (c.alloc (.cells (rO b (a:Int)) 60)):=tO;have f:=d.below m;have i:Hd (Calls _ _ _ _ _):=iw b.l a _ f.l (by have:=d.nl;omega) g;have j:Hd (Calls _ _ _ _ _):=iw b.one a _ f.one (by have:=d.n1;omega) g;have k:Hd (Calls _ _ _ _ _):=iw b.two a _ f.two (by have:=d.n2;omega) g;have l:Hd (Calls _ _ _ _ _):=iw b.three a _ f.three (by have:=d.n3;omega) g;clear d f m;unfold qz;unfold dj.val at i j k l⊢;go_enter Tryz.func24,Tryz.ntmps24;go_wp2_with fail;refine i.o.mono ?_;rintro e h ⟨rfl,rfl⟩;go_wp2_with fail;refine j.o.mono ?_;rintro e h ⟨rfl,rfl⟩;go_wp2_with fail;refine k.o.mono ?_;rintro e h ⟨rfl,rfl⟩;go_wp2_with fail;refine l.o.mono ?_;rintro e h ⟨rfl,rfl⟩;go_wp2;go_ret;exact⟨rfl,by go_grown⟩
theorem Tryz.sizeBytes:(Tryz.prog.info? 60).map (·.size)=some 5:=by kernel_rfl
theorem Vx(b:Nat->Value)(c:List Value)(a:Nat)(d:a<c.length):(Jj b a++c.drop a).set a (b a)=Jj b (a+1)++c.drop (a+1):=by
 rw[List.set_append_right _ _ (by rw[Iq];exact TM _),Iq,Aaj,naj d,gaj,ZY];simp[Jj]
theorem YJ{c d e j:Option Addr}{k l m n f g h i:Nat}{o:Int}{b:Value}(a:b∈[Value.slice c k f,.slice d l g,.slice e m h,.slice j n i,.int .i64 o]):b.oneCell'=true:=by
 simp only[IN,jaj,or_false]at a;rcases a with rfl|rfl|rfl|rfl|rfl<;>rfl
theorem aZ{c:World}{f b a:Nat}{g:Value}(d:Nat)(i:c.ownsRow f 5 1 g b (Jj (wv a) (b*1))):(c.alloc (.cells (List.replicate d (Value.int .u8 ((a:Int)%251))).toArray 5)).ownsRow f 5 1 g b (Jj (wv a) (b*1))/\jj (c.alloc (.cells (List.replicate d (Value.int .u8 ((a:Int)%251))).toArray 5)) (some ⟨c.heap.size,0,none⟩) (Jj (fun e=>wv a (b*1+e)) (d*1)):=by
 refine⟨i.alloc _,?_⟩;have h:Jj (fun e=>wv a (b*1+e)) (d*1)=List.replicate d (Value.int .u8 ((a:Int)%251)):=by
  unfold Jj wv
  apply List.ext_getElem
  .simp
  .intro l j k;simp
 rw[h];exact jj.alloc_new c _ _
theorem aK(q:dj)(j:List UInt8)(l f:Nat)(d:World)(x:rj d l q.val j)(a3:j.length<=100000000000000)(bn:f<=140737488355328)(a4:l<=d.heap.size):
  CP 34 #[q.val,.int .i64 f] d fun i ag=>∃S:Yq,i=.returned (.agg (qz S f).toArray)/\Sv ag (wv f) 1 S/\bj (fun b=>q.val.ownBlock=some b) d ag/\(∀b,cy S b->q.val.ownBlock=some b\/d.heap.size<b):=by
 have a7:=vj (a:=q.a) (n':=q.n) (cap:=q.cap) x;obtain⟨g,bv,h⟩:=q;unfold dj.val at x⊢;simp only at x a7⊢;obtain⟨ar,au,av,a2⟩:=a7;subst ar;have bo:(f:Int)<=140737488355328:=by omega
 have P:Below d.heap.size d (d.alloc (.cells #[.slice none 0 0,.slice none 0 0,.slice none 0 0,.slice none 0 0,.int .i64 0] 60)):=tO;have ao:Hd (aj (d.alloc (.cells #[.slice none 0 0,.slice none 0 0,.slice none 0 0,.slice none 0 0,.int .i64 0] 60)) d.heap.size 60 [.slice none 0 0,.slice none 0 0,.slice none 0 0,.slice none 0 0,.int .i64 0]):=aj.new d _ _;have am:Hd ((d.alloc (.cells #[.slice none 0 0,.slice none 0 0,.slice none 0 0,.slice none 0 0,.int .i64 0] 60)).ownsRow l 5 1 (.slice g j.length h) j.length (j.map fj)):=lj x P;have al:Hd (bj (fun b=>(Value.slice g j.length h).ownBlock=some b) d (d.alloc (.cells #[.slice none 0 0,.slice none 0 0,.slice none 0 0,.slice none 0 0,.int .i64 0] 60))):=bj.of_below_all P;have Y:Hd (∀b,(Value.slice g j.length h).ownBlock=some b->l<=b/\b<d.heap.size):=x.lt;have bp:(j.length:Int)<=100000000000000:=by omega
 have ah:Hd (g=none/\j.length=0/\h=0\/∃m,g=some ⟨m,0,none⟩/\l<=m/\m<d.heap.size):=a2;have ai:Hd (l<=d.heap.size):=a4;have r:Hd (j.length<=100000000000000):=a3;have ap:Hd ((j.map fj).length=j.length):=by unfold Hd;simp
 have ak:Hd ((j.map fj).drop j.length=[]):=by unfold Hd;exact xaj (by simp)
 generalize j.map fj=U at*;generalize j.length=o at*;clear P x au av a2 a4 a3;go_enter Tryz.func34,Tryz.ntmps34;go_wp2
 go_loopw [6] (fun R wr=>∃b:Nat,b<=o/\R=.int .i64 b/\Hd (wr.ownsRow l 5 1 (.slice g o h) o (Jj (wv f) b++U.drop b))/\Hd (bj (fun b=>(Value.slice g o h).ownBlock=some b) d wr)/\Hd (aj wr d.heap.size 60 [.slice none 0 0,.slice none 0 0,.slice none 0 0,.slice none 0 0,.int .i64 0])) (fun R _=>o - (intOf R).toNat)
 case atStart=>exact⟨0,by omega,by simp,by unfold Hd;simpa[Jj]using am.o,al,ao⟩
 case round=>
  obtain⟨b,bh,rfl,y,K,M⟩:=hrel;by_cases bl:b<o
  .have aT:(b:Int)<o:=by omega
   obtain⟨m,b3,aE,aP⟩:∃m,g=some ⟨m,0,none⟩/\l<=m/\m<d.heap.size:=by
    rcases ah.o with⟨_,bf,_⟩|t
    .omega
    .exact t
   subst b3;have aI:=BN y.o b (by omega);have a9:b<U.length:=by have:=ap.o;omega
   rw[MN (by rw[Iq];exact TM _),Iq,Aaj,oaj,eaj,UM a9]at aI;have a8:=CN y.o b;have W:Hd ((wr.setCell ⟨m,b,none⟩ (wv f b)).ownsRow l 5 1 (.slice (some ⟨m,0,none⟩) o h) o (Jj (wv f) (b+1)++U.drop (b+1))):=by
    have:=(QN y.o b (wv f b)).1;rw[Vx _ _ _ a9]at this;exact this
   have V:Hd (bj (fun b=>(Value.slice (some ⟨m,0,none⟩) o h).ownBlock=some b) d (wr.setCell ⟨m,b,none⟩ (wv f b))):=K.o.setCell (p:=⟨m,b,none⟩) rfl _;have X:Hd (aj (wr.setCell ⟨m,b,none⟩ (wv f b)) d.heap.size 60 [.slice none 0 0,.slice none 0 0,.slice none 0 0,.slice none 0 0,.int .i64 0]):=M.o.other (by show d.heap.size≠m;omega) _;unfold wv at W V X;clear aE aP;go_wp2;refine⟨⟨b+1,by omega,by go_num,?_,V.o,X.o⟩,by simp[intOf];omega⟩;exact W.o
  .obtain rfl:b=o:=by omega
   have aT:¬(b:Int)<b:=by omega
   have an:Hd (wr.ownsRow l 5 1 (.slice g b h) b (Jj (wv f) (b*1))):=by
    have:=y.o;rw[ak.o,XN]at this;unfold Hd;rw[Nat.mul_one];exact this
   have I:Hd (∀ae,(wv f ae).oneCell'=true):=fun ae=>rfl;clear y;have L:Hd (∀N O,aj N d.heap.size 60 [.slice none 0 0,.slice none 0 0,.slice none 0 0,.slice none 0 0,.int .i64 0]->bj (fun n=>(Value.slice g b h).ownBlock=some n) N O->aj O d.heap.size 60 [.slice none 0 0,.slice none 0 0,.slice none 0 0,.slice none 0 0,.int .i64 0]):=fun N O t a8=>t.of_block (a8.block _ t.lt (fun i=>by have:=(Y.o _ i).2;omega));have J:Hd (l<=wr.heap.size):=WM ai.o K.o.size;go_wp2_with (first
    |(at_builtin;obtain⟨b6,b9⟩:=aZ 1 an.o;refine uv (by rfl) (.tmp 23) (.tmp 25) 38 (by rfl) l 5 _ 1 1 Tryz.underlying38 Tryz.infoU8 rfl (by decide) (wv f) (.slice g b h) b (by rfl) b6 ⟨wr.heap.size,0,none⟩ 1 1 (by rfl) b9 I.o (by decide) (by have:=r.o;unfold maxLen;omega) (by have:=r.o;omega) (by have:=J.o;simp;omega) ?_;intro z C u aa F aB bi b1)
    |(at_builtin;obtain⟨b7,ba⟩:=aZ 2 b1;refine uv (by rfl) (.tmp 27) (.tmp 30) 38 (by rfl) l 5 _ 1 1 Tryz.underlying38 Tryz.infoU8 rfl (by decide) (wv f) (.slice g b h) b (by rfl) b7 ⟨u.heap.size,0,none⟩ 2 2 (by rfl) ba I.o (by decide) (by have:=r.o;unfold maxLen;omega) (by have:=r.o;omega) (by have:=(WM J.o (WM (by simp) F.size):l<=u.heap.size);simp;omega) ?_;intro A D v ab G aC aR b2)
    |(at_builtin;obtain⟨b8,bb⟩:=aZ 3 b2;refine uv (by rfl) (.tmp 32) (.tmp 36) 38 (by rfl) l 5 _ 1 1 Tryz.underlying38 Tryz.infoU8 rfl (by decide) (wv f) (.slice g b h) b (by rfl) b8 ⟨v.heap.size,0,none⟩ 3 3 (by rfl) bb I.o (by decide) (by have:=r.o;unfold maxLen;omega) (by have:=r.o;omega) (by have:=(WM J.o (WM (WM (by simp) F.size) (WM (by simp) G.size)):l<=v.heap.size);simp;omega) ?_;intro B E T ac Q aD aS ad;have ax:=L.o _ _ (aj.alloc (L.o _ _ (aj.alloc (L.o _ _ (aj.alloc M.o _) F) _) G) _) Q)
    |(refine xv (by rfl) 60 (.tmp 4) (.tmp 43) (by rfl) d.heap.size (by rfl) [.slice g b h,.slice z (b+1) C,.slice A (b+2) D,.slice B (b+3) E,.int .i64 f] (by rfl) ax rfl Tryz.sizeBytes (fun bu b0=>YJ b0) ?_;intro bw aA w bs))
   have br:=M.o.lt;have bc:=F.size;have bd:=G.size;have be:=Q.size;simp only[YM]at bc bd be;have a5:Below u.heap.size u (u.alloc (.cells #[Value.int .u8 ((f:Int)%251),Value.int .u8 ((f:Int)%251)] 5)):=tO;have a6:Below v.heap.size v (v.alloc (.cells #[Value.int .u8 ((f:Int)%251),Value.int .u8 ((f:Int)%251),Value.int .u8 ((f:Int)%251)] 5)):=tO;have bg:Below wr.heap.size wr (wr.alloc (.cells #[Value.int .u8 ((f:Int)%251)] 5)):=tO;have b4:Pq (wv f) u v:=(Pq.below a5).trans aR a5.size;have af:Pq (wv f) v T:=(Pq.below a6).trans aS a6.size;have b5:Pq (wv f) u T:=b4.trans af (by omega);have Z:∀n,(Value.slice z (b+1) C).ownBlock=some n->(Value.slice g b h).ownBlock=some n\/d.heap.size<n:=fun e c=>by
    rcases aB with i|i
    .exact SM (by rw[<-i];exact c)
    .rw[i]at c;have:=lN c;simp at this;exact RM (by omega)
   have a0:∀n,(Value.slice A (b+2) D).ownBlock=some n->(Value.slice g b h).ownBlock=some n\/d.heap.size<n:=fun e c=>by
    rcases aC with i|i
    .exact SM (by rw[<-i];exact c)
    .rw[i]at c;have:=lN c;simp at this;exact RM (by omega)
   have a1:∀n,(Value.slice B (b+3) E).ownBlock=some n->(Value.slice g b h).ownBlock=some n\/d.heap.size<n:=fun e c=>by
    rcases aD with i|i
    .exact SM (by rw[<-i];exact c)
    .rw[i]at c;have:=lN c;simp at this;exact RM (by omega)
   have H:∀e,((Value.slice g b h).ownBlock=some e\/d.heap.size<e)->¬e=d.heap.size:=fun e c i=>by
    rcases c with t|t
    .have:=(Y.o e t).2;omega
    .omega
   have aO:bj (fun n=>(Value.slice g b h).ownBlock=some n) d T:=(((((K.o.alloc _).trans F).alloc _).trans G).alloc _).trans Q;have bk:=r.o;refine Cv (k:=4) (cs:=qz ⟨⟨g,b,h⟩,⟨z,b+1,C⟩,⟨A,b+2,D⟩,⟨B,b+3,E⟩⟩ f) rfl rfl aA Tryz.underlying60 rfl Tryz.sizeBytes rfl ⟨⟨⟨g,b,h⟩,⟨z,b+1,C⟩,⟨A,b+2,D⟩,⟨B,b+3,E⟩⟩,rfl,⟨?_,?_,?_,?_,by simp only;omega,by simp only;omega,by simp only;omega,by simp only;omega,?_⟩,?_,?_⟩
   .exact(vz.own (s:=⟨g,b,h⟩) ad).frame w (fun e c=>H e (SM c))
   .exact((vz.own (s:=⟨z,b+1,C⟩) aa).keep b5 (by omega)).frame w (fun e c=>H e (Z e c))
   .exact((vz.own (s:=⟨A,b+2,D⟩) ab).keep af (by omega)).frame w (fun e c=>H e (a0 e c))
   .exact(vz.own (s:=⟨B,b+3,E⟩) ac).frame w (fun e c=>H e (a1 e c))
   .intro e c;have bA:=w.size;rcases c with c|c|c|c
    .have:=(ad.lt e c).2;omega
    .have:=(aa.lt e c).2;omega
    .have:=(ab.lt e c).2;omega
    .have:=(ac.lt e c).2;omega
   .exact bj.inside aO w (fun e bm i=>by omega)
   .intro e c;rcases c with c|c|c|c
    .exact SM c
    .exact Z e c
    .exact a0 e c
    .exact a1 e c
def ux:Nat->List Yq->List Value
 |_,[]=>[]
 |a,b::c=>qz b a++ux (a+1) c
theorem Hw:∀(b:Nat) (a:List Yq),(ux b a).length=a.length*5
 |_,[]=>rfl
 |b,c::a=>by simp[ux,Hw (b+1) a,qz];omega
theorem xJ:∀(a:Nat) (b:List Yq) (c:Yq),ux a (b++[c])=ux a b++qz c (a+b.length)
 |a,[],c=>by simp[ux]
 |a,d::b,c=>by
  have:=xJ (a+1) b c;simp only[Maj,ux,this,NN,uN];rw[show a+1+b.length=a+(b.length+1)by omega]
theorem bK:∀(b:Nat) (d:List Yq) (a:Nat) (e:a<d.length) (c:Nat),c<5->(ux b d)[a*5+c]? =(qz d[a] (b+a))[c]?
 |b,[],a,e,c,f=>absurd e (wN _)
 |b,g::d,0,e,c,f=>by
  simp only[ux,Nat.zero_mul,sN,eaj,cN];rw[DN (by simpa[qz]using f)]
 |b,g::d,a+1,e,c,f=>by
  have:=bK (b+1) d a (by simpa using e) c f;simp only[ux,gN];rw[MN (by simp[qz];omega)];rw[show(a+1)*5+c - (qz g b).length=a*5+c by simp[qz];omega,this,show b+1+a=b+(a+1)by omega]
theorem Tryz.infoBytes:(Tryz.prog.info? 60).map (fun a=>(a.zero,a.size,a.bytes))=some (some (.agg #[.slice none 0 0,.slice none 0 0,.slice none 0 0,.slice none 0 0,.int .i64 0]),5,104):=by kernel_rfl
structure Mz(w:World)(bs:dj)(rs:List Yq):Prop where
 own:w.ownsRow 0 60 5 bs.val rs.length (ux 0 rs)
 ok:∀i (h:i<rs.length),Sv w (wv i) 1 rs[i]
 apart:∀r∈rs,∀k,cy r k->bs.val.ownBlock≠some k
def Kj(b:dj)(d:List Yq)(a:Nat):Prop:=b.val.ownBlock=some a\/∃c∈d,cy c a
theorem Mz.frame{j k:World}{S:Nat->Prop}{c:dj}{b:List Yq}(d:Mz j c b)(g:bj S j k)(f:∀a,Kj c b a->¬S a):Mz k c b:=
 ⟨ij d.own g (fun a e=>f a (SM e)),fun i h=>(d.ok i h).frame g (fun a e=>f a (RM ⟨b[i],bN h,e⟩)),d.apart⟩
theorem Mz.below{w w':World}{a:dj}{b:List Yq}(d:Mz w a b)(e:Below w.heap.size w w'):Mz w' a b:=d.frame (bj.of_below_all (S:=fun _=>False) e) (fun _ _ c=>c)
theorem Mz.lt{f:World}{c:dj}{e:List Yq}(d:Mz f c e):∀b,Kj c e b->b<f.heap.size:=fun b a=>by
 rcases a with a|⟨j,h,a⟩
 .exact(d.own.lt b a).2
 .obtain⟨i,g,rfl⟩:=PN h;exact(d.ok i g).lt b a
theorem Mz.nil(c:World):Mz c ⟨none,0,0⟩ []:=⟨iN _ _ _ _,fun d a=>absurd a (wN _),fun e b=>(by cases b)⟩
theorem gL{r q l:World}{i:Nat}{G k C D:dj}{v:Value}{h:List Yq}{n:Yq}{c:Option Addr}{g d:Nat}(y:Mz r k h)(z:Mz q k h)(E:aj l i 34 [G.val,k.val,C.val,D.val])(B:Sv q (wv h.length) 1 n)(A:bj (fun a=>v.ownBlock=some a) r q)
  (u:∀a,cy n a->¬k.val.ownBlock=some a/\a≠i)(H:∀a,cy n a->v.ownBlock=some a\/r.heap.size<a)(J:∀a,Kj k h a->a≠i)(F:l.ownsRow 0 60 5 (.slice c g d) (h.length+1) (ux 0 h++qz n h.length))(s:bj (fun a=>k.val.ownBlock=some a) q l)
  (I:(Value.slice c g d).ownBlock=k.val.ownBlock\/(Value.slice c g d).ownBlock=some q.heap.size):
  aj (l.setCell ⟨i,1,none⟩ (.slice c g d)) i 34 [G.val,.slice c g d,C.val,D.val]/\Mz (l.setCell ⟨i,1,none⟩ (.slice c g d)) ⟨c,g,d⟩ (h++[n])/\bj (fun a=>a=i\/v.ownBlock=some a\/k.val.ownBlock=some a) r (l.setCell ⟨i,1,none⟩ (.slice c g d))/\
   (∀a,Kj ⟨c,g,d⟩ (h++[n]) a->a<r.heap.size->Kj k h a\/v.ownBlock=some a):=by
 have t:bj (fun a=>a=i) l (l.setCell ⟨i,1,none⟩ (.slice c g d)):=(bj.refl (fun a=>a=i) _).setCell (p:=⟨i,1,none⟩) rfl _;have Q:=s.size;have P:=A.size;have w:∀a,(Value.slice c g d).ownBlock=some a->k.val.ownBlock=some a\/q.heap.size<=a:=fun a b=>by
  rcases I with j|j
  .exact SM (by rw[<-j];exact b)
  .rw[j]at b;have:=lN b;exact RM (by omega)
 have L:∀a,cy n a->(Value.slice c g d).ownBlock≠some a:=fun a b j=>by
  rcases w a j with e|e
  .exact(u a b).1 e
  .have:=B.lt a b;omega
 have N:∀o∈h,∀a,cy o a->(Value.slice c g d).ownBlock≠some a:=fun o f a b j=>by
  rcases w a j with e|e
  .exact y.apart o f a b e
  .have:=z.lt a (RM ⟨o,f,b⟩);omega
 have O:Sv (l.setCell ⟨i,1,none⟩ (.slice c g d)) (wv h.length) 1 n:=(B.frame s (fun a b=>(u a b).1)).frame t (fun a b=>(u a b).2);have M:∀m (e:m<h.length),Sv (l.setCell ⟨i,1,none⟩ (.slice c g d)) (wv m) 1 h[m]:=fun m e=>((z.ok m e).frame s (fun a b j=>y.apart _ (bN e) a b j)).frame t (fun a b j=>J a (RM ⟨_,bN e,b⟩) j);refine⟨by simpa using E.set 1 (.slice c g d),⟨?_,?_,?_⟩,?_,?_⟩
 .rw[XM,VN,xJ,sN];exact ij F t (fun a b j=>xj F E (by decide) (by rw[<-j];exact b))
 .intro m K;by_cases x:m<h.length
  .rw[kaj x];exact M m x
  .have:m=h.length:=by simp at K;omega
   subst this;rw[haj (TM _)];simpa using O
 .intro o f a b;rcases fN.1 f with f|f
  .exact N o f a b
  .simp only[eN]at f;subst f;exact L a b
 .refine bj.inside (bj.inside (A.mono (fun a _ b=>RM (SM b))) s (fun a _ b=>RM (RM b))) t (fun a _ b=>SM b)
 .intro a b x;rcases b with b|⟨o,f,b⟩
  .rcases w a b with e|e
   .exact SM (SM e)
   .omega
  .rcases fN.1 f with f|f
   .exact SM (RM ⟨o,f,b⟩)
   .simp only[eN]at f;subst f;rcases H a b with e|e
    .exact RM e
    .omega
attribute [local go_sem↓] Go.wp_at_zero Go.wp_at_succ
theorem Nw(g:Nat)(q e m n h:dj)(c:List Yq)(y:List UInt8)(z:Nat)(i:World)(s:aj i g 34 [q.val,e.val,m.val,n.val])(C:Mz i e c)(U:rj i z h.val y)(N:y.length<=100000000000000)(T:c.length<=1200000000000)(Q:z<=i.heap.size)
  (X:∀d,h.val.ownBlock=some d->d≠g/\¬Kj e c d)(R:∀d,Kj e c d->d≠g):
  CP 18 #[.pointer (some ⟨g,1,none⟩),h.val] i fun j I=>j=.returned (.tuple #[])/\∃(A:dj) (b:Yq),aj I g 34 [q.val,A.val,m.val,n.val]/\Mz I A (c++[b])/\bj (fun d=>d=g\/h.val.ownBlock=some d\/e.val.ownBlock=some d) i I/\(∀d,Kj A (c++[b]) d->d<i.heap.size->Kj e c d\/h.val.ownBlock=some d):=by
 have H:=(vj (a:=e.a) (n':=e.n) (cap:=e.cap) C.own).1;have w:Hd (Calls _ _ _ _ _):=aK h y z c.length i U N (by omega) Q;have an:i.cell? ⟨g,1,none⟩=some (.slice e.a e.n e.cap):=s.cell 1 (by simp);have ao:(e.n:Int)<=1200000000000:=by rw[H];omega
 have a3:Hd ((c.length:Int)=(e.n:Int)):=by unfold Hd;rw[H]
 rw[a3.o]at w;have aa:Hd (g<i.heap.size):=s.lt;have u:Hd (Mz i e c):=C;have L:Hd (aj i g 34 [q.val,e.val,m.val,n.val]):=s;have r:Hd (∀d,h.val.ownBlock=some d->d≠g/\¬Kj e c d):=X;have a2:Hd (∀d,Kj e c d->d≠g):=R;clear H s C U Q N X R;unfold dj.val at w⊢;go_enter Tryz.func18,Tryz.ntmps18;go_wp2_with fail;refine w.o.mono ?_;rintro j f ⟨b,rfl,V,t,F⟩;have a9:Hd (∀d,Kj e c d->¬(Value.slice h.a h.n h.cap).ownBlock=some d):=fun d G j=>(r.o d j).2 G;have M:Mz f e c:=u.o.frame t a9.o;have l:aj f g 34 [q.val,e.val,m.val,n.val]:=L.o.of_block (t.block _ L.o.lt (fun j=>(r.o _ j).1 rfl));have o:Below f.heap.size f ((f.alloc (.cells (rO b (c.length:Int)) 60)).alloc (.cells (rO b (c.length:Int)) 60)).drew:=by
  have p:Below f.heap.size f ((f.alloc (.cells (rO b (c.length:Int)) 60)).alloc (.cells (rO b (c.length:Int)) 60)):=tO.alloc (by simp) _;exact⟨p.os,p.tape,p.output,p.size,p.block⟩
 have D:=M.below o;have P:=l.below l.lt o;have W:=V.below o;have k:aj (f.alloc (.cells (rO b (c.length:Int)) 60)) f.heap.size 60 [.slice b.l.a b.l.n b.l.cap,.slice b.one.a b.one.n b.one.cap,.slice b.two.a b.two.n b.two.cap,.slice b.three.a b.three.n b.three.cap,.int .i64 (c.length:Int)]:=aj.new f _ _;have au:(f.alloc (.cells (rO b (c.length:Int)) 60)).cell? ⟨f.heap.size,0,none⟩=some (.slice b.l.a b.l.n b.l.cap):=k.cell 0 (by simp);have av:(f.alloc (.cells (rO b (c.length:Int)) 60)).cell? ⟨f.heap.size,1,none⟩=some (.slice b.one.a b.one.n b.one.cap):=k.cell 1 (by simp);have ax:(f.alloc (.cells (rO b (c.length:Int)) 60)).cell? ⟨f.heap.size,2,none⟩=some (.slice b.two.a b.two.n b.two.cap):=k.cell 2 (by simp);have aA:(f.alloc (.cells (rO b (c.length:Int)) 60)).cell? ⟨f.heap.size,3,none⟩=some (.slice b.three.a b.three.n b.three.cap):=k.cell 3 (by simp);have aB:(f.alloc (.cells (rO b (c.length:Int)) 60)).cell? ⟨f.heap.size,4,none⟩=some (.int .i64 (c.length:Int)):=k.cell 4 (by simp);have aC:(f.alloc (.cells (rO b (c.length:Int)) 60)).cell? ⟨g,1,none⟩=some (.slice e.a e.n e.cap):=(l.alloc _).cell 1 (by simp);have aD:((f.alloc (.cells (rO b (c.length:Int)) 60)).alloc (.cells (rO b (c.length:Int)) 60)).cell? ⟨g,1,none⟩=some (.slice e.a e.n e.cap):=((l.alloc _).alloc _).cell 1 (by simp);have O:=k.alloc (.cells (rO b (c.length:Int)) 60);have K:Hd (World.ownsRow ((f.alloc (.cells (rO b (c.length:Int)) 60)).alloc (.cells (rO b (c.length:Int)) 60)).drew 0 60 5 (.slice e.a e.n e.cap) c.length (ux 0 c)):=D.own;have a8:Hd (jj ((f.alloc (.cells (rO b (c.length:Int)) 60)).alloc (.cells (rO b (c.length:Int)) 60)).drew (some ⟨f.heap.size+1,0,none⟩) (qz b c.length)):=by
  have:=jj.alloc_new (f.alloc (.cells (rO b (c.length:Int)) 60)) (qz b c.length) 60;simp only[YM]at this;exact this
 have a0:Hd (∀Y∈qz b c.length,Y.oneCell'=true):=fun Y af=>YJ af;have a1:Hd (Mz ((f.alloc (.cells (rO b (c.length:Int)) 60)).alloc (.cells (rO b (c.length:Int)) 60)).drew e c):=D;have x:Hd (aj ((f.alloc (.cells (rO b (c.length:Int)) 60)).alloc (.cells (rO b (c.length:Int)) 60)).drew g 34 [q.val,e.val,m.val,n.val]):=P;have a7:Hd (Sv ((f.alloc (.cells (rO b (c.length:Int)) 60)).alloc (.cells (rO b (c.length:Int)) 60)).drew (wv c.length) 1 b):=W;have am:Hd (aj ((f.alloc (.cells (rO b (c.length:Int)) 60)).alloc (.cells (rO b (c.length:Int)) 60)) f.heap.size 60 [.slice b.l.a b.l.n b.l.cap,.slice b.one.a b.one.n b.one.cap,.slice b.two.a b.two.n b.two.cap,.slice b.three.a b.three.n b.three.cap,.int .i64 (c.length:Int)]):=O;have a5:Hd (∀d,cy b d->(Value.slice h.a h.n h.cap).ownBlock=some d\/i.heap.size<d):=F;have a4:Hd (bj (fun d=>(Value.slice h.a h.n h.cap).ownBlock=some d) i ((f.alloc (.cells (rO b (c.length:Int)) 60)).alloc (.cells (rO b (c.length:Int)) 60)).drew):=t.trans (bj.of_below_all o);have a6:Hd (∀d,cy b d->¬e.val.ownBlock=some d/\d≠g):=fun d G=>by
  rcases F d G with B|B
  .exact⟨fun j=>(r.o d B).2 (SM j),(r.o d B).1⟩
  .exact⟨fun j=>by have:=u.o.lt d (SM j);omega,by have:=aa.o;omega⟩
 have ar:g<f.heap.size:=l.lt;have ap:g≠f.heap.size:=by omega
 have J:Hd (c.length<=1200000000000):=T;clear M l o D P W k O t F V T;unfold qz;unfold dj.val;go_wp2
 go_region_law ((refine cq (by rfl) (.tmp 16) (.tmp 18) 28 (by rfl) 0 60 _ 5 104 Tryz.underlying28 Tryz.infoBytes rfl (by decide) (.slice e.a e.n e.cap) c.length (ux 0 c) (by rfl) K.o ⟨f.heap.size+1,0,none⟩ 1 1 (qz b c.length) (by rfl) rfl a8.o a0.o (by have:=J.o;unfold maxLen;omega) (by have:=J.o;omega) (nN _) ?_;intro ab ag ac Z ae S ad;have E:=aj.of_block x.o (S.block _ x.o.lt (fun j=>xj K.o x.o (by decide) j));have aE:Z.cell? ⟨g,1,none⟩=some (.slice e.a e.n e.cap):=aj.cell E 1 (by simp);have aI:Z.frozen? ⟨g,1,none⟩=false:=aj.frozen E 1))
 all_goals
  go_wp2;go_returns;obtain⟨ah,ai,ak,al⟩:=gL (v:=.slice h.a h.n h.cap) u.o a1.o E a7.o a4.o a6.o a5.o a2.o ae S ad;exact⟨rfl,⟨ab,ag,ac⟩,b,ah,ai,ak,al⟩
end
end Go.Proofs.YtekegfbjbainhaaGreat
