import Derived.Test.YtekegfbjbainhaaGreatKJoin1
import Derived.Deep.DrawnRows
import Derived.Deep.QuietTactic
import Derived.BigQuiet
import Derived.Deep.RegionLaw
set_option maxRecDepth 100000
set_option maxHeartbeats 1600000
set_option linter.unusedVariables false
set_option linter.unusedSimpArgs false
namespace Go.Proofs.YtekegfbjbainhaaGreat
open Go.RowKit
theorem Jx{f:Type}(b:f->List Value)(c:Nat):∀(a:List f),(∀d∈a,(b d).length=c)->(a.flatMap b).length=a.length*c
 |[],_=>by simp
 |d::a,e=>by
  have:=Jx b c a (fun h g=>e h (by simp[g]));rw[JN,XM,this,e d (by simp),uN,Nat.add_mul];omega
theorem yX{d:Type}(a:d->List Value)(b:List d)(c:Nat):b.flatMap a=(b.take c).flatMap a++(b.drop c).flatMap a:=by
 rw[<-KN,Naj]
theorem VV{f:Type}(a:f->List Value)(d:Nat)(c:List f)(g:∀e∈c,(a e).length=d)(b:Nat)(h:b<=c.length):(c.flatMap a).take (b*d)=(c.take b).flatMap a:=by
 rw[yX a c b];have i:((c.take b).flatMap a).length=b*d:=by rw[Jx a d _ (fun e j=>g e (TN j)),aN,LN h]
 rw[<-i,List.take_left]
theorem NQ{f:Type}(a:f->List Value)(d:Nat)(c:List f)(g:∀e∈c,(a e).length=d)(b:Nat)(h:b<=c.length):(c.flatMap a).drop (b*d)=(c.drop b).flatMap a:=by
 conv=>lhs;rw[yX a c b]
 have i:((c.take b).flatMap a).length=b*d:=by rw[Jx a d _ (fun e j=>g e (TN j)),aN,LN h]
 rw[<-i,List.drop_left]
theorem tw{h:Type}(b:h->List Value)(d:Nat)(a:List h)(f:∀j∈a,(b j).length=d)(c:Nat)(g:c<a.length)(e:Nat)(i:e<d):(a.flatMap b)[c*d+e]? =(b a[c])[e]? :=by
 rw[<-oaj,NQ b d a f c (by omega),naj g,JN,DN (by rw[f _ (bN g)];exact i)]
structure ej where
 key:List UInt8
 more:List UInt8
 below:Nat
def Hz(a:List UInt8):Value:=.string ⟨a.toArray⟩
def XW(a:ej):List Value:=[Hz a.key,Hz a.more,.int .i64 (a.below:Int)]
def nx(a:List ej):List Value:=a.flatMap XW
theorem IJ(a:List ej):(nx a).length=a.length*3:=Jx XW 3 a (fun _ _=>rfl)
theorem YW(a:List UInt8):(ByteArray.mk a.toArray).size=a.length:=by simp[ByteArray.size]
def Aq(c:World)(a:Option Addr)(b:List ej):Prop:=jj c a (nx b)
theorem jj.at{c:World}{d:Option Addr}{e:List Value}(f:jj c d e){i:Nat}{v:Value}(m:e[i]? =some v):∃a b,d=some ⟨a,b,none⟩/\a<c.heap.size/\c.cell? ⟨a,b+i,none⟩=some v:=by
 obtain⟨g,h⟩:=kN.1 m;obtain⟨a,b,j,k,l⟩:=f i g;exact⟨a,b,j,k,by rw[l,h]⟩
theorem Aq.cells{e:World}{h:Option Addr}{c:List ej}(f:Aq e h c)(a:Nat)(q:a<c.length):∃b d,h=some ⟨b,d,none⟩/\b<e.heap.size/\
  e.cell? ⟨b,d+a*3,none⟩=some (Hz c[a].key)/\e.cell? ⟨b,d+a*3+1,none⟩=some (Hz c[a].more)/\e.cell? ⟨b,d+a*3+2,none⟩=some (.int .i64 (c[a].below:Int)):=by
 have g:=fun l (r:l<3)=>tw XW 3 c (fun _ _=>rfl) a q l r;obtain⟨b,d,i,p,m⟩:=jj.at f (g 0 (by omega));obtain⟨s,u,j,_,n⟩:=jj.at f (g 1 (by omega));obtain⟨t,v,k,_,o⟩:=jj.at f (g 2 (by omega));rw[i]at j k;cases j;cases k;exact⟨b,d,i,p,m,by rw[paj];exact n,by rw[paj];exact o⟩
theorem yq(f:Option Addr)(a g:Nat)(e:World)(j:a<=maxLen):
  CP 31 #[.slice f a g] e fun h k=>h=.returned (.bool (decide (1<=a)&&decide (a<=12)))/\k=e:=by
 unfold maxLen at j;by_cases b:1<=a
 .by_cases d:a<=12
  .have c:(1:Int)<=a:=by omega
   have i:(a:Int)<=12:=by omega
   go_enter Tryz.func31,Tryz.ntmps31;go_wp2;go_ret;exact⟨by simp[b,d],rfl⟩
  .have c:(1:Int)<=a:=by omega
   have i:¬(a:Int)<=12:=by omega
   go_enter Tryz.func31,Tryz.ntmps31;go_wp2;go_ret;exact⟨by simp[b,d],rfl⟩
 .have c:¬(1:Int)<=a:=by omega
  go_enter Tryz.func31,Tryz.ntmps31;go_wp2;go_ret;exact⟨by simp[b],rfl⟩
def Rz(a:List UInt8)(b:ej):Bool:=Op.bytesLess b.key a
def pj(b:List ej)(a:List UInt8):Nat:=(b.takeWhile (Rz a)).length
def Qj(b:List ej)(a:List UInt8):Bool:=((b[pj b a]?).map (fun c=>c.key==a)).getD false
theorem Kw(m:Nat)(l:Option Addr)(o:Nat)(a:List ej)(c:List UInt8)(f:World)(z:a.length<=1000000)(w:f.cell? ⟨m,0,none⟩=some (.slice l a.length o))(s:Aq f l a):
  CP 80 #[.pointer (some ⟨m,0,none⟩),Hz c] f fun p u=>p=.returned (.tuple #[.int .i64 (pj a c:Int),.bool (Qj a c)])/\∃t,u=f.drewN t:=by
 unfold Hz;go_enter Tryz.func80,Tryz.ntmps80;go_wp2
 go_loop [6] (fun j=>∃b:Nat,b<=a.length/\j=.int .i64 b/\Hd (pj a c=b+((a.drop b).takeWhile (Rz c)).length)) (fun j=>a.length - (intOf j).toNat)
 case atStart=>exact⟨0,by omega,rfl,by simp[Hd,pj]⟩
 case round=>
  obtain⟨b,y,rfl,g⟩:=hrel;by_cases i:b<a.length
  .obtain⟨v,A,rfl,x,n,_,_⟩:=s.cells b i;unfold Hz at n;have k:Hd (a.drop b=a[b]::a.drop (b+1)):=naj i;have r:(b:Int)<a.length:=by omega
   by_cases e:Rz c a[b]=true
   .have q:Op.bytesLess a[b].key c=true:=e;go_wp2
    go_round
    case rel=>exact⟨b+1,by omega,by go_num,by
     have:=g.o;rw[k.o,Zaj,if_pos e,uN]at this;unfold Hd;omega⟩
    case measure=>simp[intOf];omega
   .have q:Op.bytesLess a[b].key c=false:=by unfold Rz at e;simpa using e
    have d:Hd (pj a c=b):=by
     have:=g.o;rw[k.o,Zaj,if_neg e]at this;unfold Hd;simpa using this
    have h:Hd (Qj a c=(a[b].key==c)):=by
     unfold Hd Qj;rw[d.o,UM i];rfl
    go_wp2;go_quiet (fail);go_wp2
    go_ret2
    exact⟨by rw[d.o,h.o];rfl,_,rfl⟩
  .have d:Hd (pj a c=b):=by
     have:=g.o;rw[xaj (by omega)]at this;unfold Hd;simpa using this
   have h:Hd (Qj a c=false):=by
    unfold Hd Qj;rw[d.o,Saj (by omega)];rfl
   have r:¬(b:Int)<a.length:=by omega
   go_wp2;go_quiet (fail);go_wp2
   go_ret2
   exact⟨by rw[d.o,h.o];rfl,_,rfl⟩
theorem Ky(a:List ej)(b:List UInt8):pj a b<=a.length:=(List.takeWhile_prefix _).length_le
theorem Lv{a:List ej}{c:List UInt8}(b:Qj a c=true):pj a c<a.length:=by
 unfold Qj at b;by_cases d:pj a c<a.length
 .exact d
 .rw[Saj (by omega)]at b;simp at b
def Ek(a:List ej)(b value:List UInt8):List ej:=a.take (pj a b)++[⟨b,value,0⟩]++a.drop (if Qj a b then pj a b+1 else pj a b)
def uw(a:List ej)(b:List UInt8):List ej:=a.take (pj a b)++a.drop (pj a b+1)
def jz(d:World)(b:Nat)(c:Value)(a:List ej):Prop:=d.ownsRow b 84 3 c a.length (nx a)
theorem Tryz.infoItem:(Tryz.prog.info? 84).map (fun a=>(a.zero,a.size,a.bytes))=some (some (.agg #[.string ⟨#[]⟩,.string ⟨#[]⟩,.int .i64 0]),3,40):=by kernel_rfl
theorem DY(d:List ej):∀b∈nx d,b.oneCell'=true:=fun b c=>by
 obtain⟨e,_,a⟩:=Eaj.1 c;simp only[XW,Hz,IN,jaj,or_false]at a;rcases a with rfl|rfl|rfl<;>rfl
theorem xZ(a b:List ej):nx (a++b)=nx a++nx b:=by simp[nx]
theorem Bq{d:World}{s:Array Oper}{rest:List Oper}{l:Oper}{h:Act}{r:Exit->Act->World->Prop}(x:l.guard=none)(p q:Operand)
  (B:l.op=.call {callee:=.builtin .append,args:=#[p,q],argTypes:=#[78,78]})
  (j:Nat)(f:Value)(e:List ej)(D:h.eval p=f)(C:jz d j f e)
  (i:Option Addr)(o m:Nat)(a:List ej)(E:h.eval q=.slice i o m)(z:o=a.length)(y:Aq d i a)(A:i=none->o=0/\m=0)
  (G:e.length+a.length<=1000000)(v:j<=d.heap.size)
  (t:∀b k c g,jz g j (.slice b k c) (e++a)->bj (fun F=>f.ownBlock=some F) d g->((Value.slice b k c).ownBlock=f.ownBlock\/(Value.slice b k c).ownBlock=some d.heap.size)->wpList Tryz.prog s r rest (h.put l.dst (.slice b k c)) g):
  wpList Tryz.prog s r (l::rest) h d:=by
 subst z;refine rq x p q 78 B j 84 _ 3 40 Tryz.underlying78 Tryz.infoItem rfl (by decide) f e.length (nx e) D C i a.length m (nx a) E (IJ a) y A (DY a) (by unfold maxLen;omega) (by omega) v ?_;intro H g n w u;rw[<-xZ]at n;obtain⟨b,c,rfl,_⟩:=Nj n;refine t b _ c g ?_ w u;unfold jz;rw[XM];exact n
theorem dQ{k:Program}{b:World}{n:Oper}{l:Act}{s:Act->World->Prop}{y:Exit->Act->World->Prop}(v x:Operand)(o:TypeId)
  (S:n.op=.call {callee:=.builtin .append,args:=#[v,x],argTypes:=#[o,o]})
  (m:Nat)(e:TypeId)(r:Value)(a bytes:Nat)(Y:k.underlying o=some (.slice e))(K:(k.info? e).map (fun f=>(f.zero,f.size,f.bytes))=some (some r,a,bytes))(a1:r.cells.size=a)(X:0<a)
  (i:Value)(g:Nat)(q:List Value)(V:l.eval v=i)(T:b.ownsRow m e a i g q)
  (p:Addr)(c t:Nat)(h:List Value)(Z:l.eval x=.slice (some p) c t)(Q:h.length=c*a)(R:jj b (some p) h)(A:∀w∈h,w.oneCell'=true)
  (E:g+c<=maxLen)(I:(g+c)*bytes<=140737488355328)(G:m<=b.heap.size)
  (z:∀d j,j.ownsRow m e a d (g+c) (q++h)->bj (fun u=>i.ownBlock=some u) b j->(d.ownBlock=i.ownBlock\/d.ownBlock=some b.heap.size)->s (l.put n.dst d) j):n.wp k l b s y:=by
 obtain⟨f,L,a0,W,H⟩:=info_parts K;obtain⟨d,j,U,B,C,_,D⟩:=run_append_own_at (P:=k) b m o n.type e f r a bytes Y L a0 W H a1 X i g q T p c t h Q (fun a2 w M=>by
  obtain⟨N,O⟩:=kN.1 M;obtain⟨a3,u,F,_,J⟩:=R a2 N;cases F;rw[mx,J,O]) A E I G
 unfold Oper.wp execOp;simp only[S,resolve,invoke,builtin,Sem.run_bind,Sem.run_pure,Result.andThen_ok,List.map_toArray,ZM,dN,V,Z,U];exact z d j B (bj.of_grown C) D
theorem OQ{s:Array Oper}{f:World}{e:Oper}{b:Act}{p:Act->World->Prop}{u:Exit->Act->World->Prop}{t:Prop}(z:e.guard=none)(n o:Operand)
  (C:e.op=.call {callee:=.builtin .append,args:=#[n,o],argTypes:=#[78,78]})
  (j:Nat)(h:Value)(g:List ej)(E:b.eval n=h)(D:jz f j h g)(l:Addr)(r q:Nat)(a:List ej)(G:b.eval o=.slice (some l) r q)(B:r=a.length)(A:Aq f (some l) a)
  (I:g.length+a.length<=1000000)(x:j<=f.heap.size)
  (v:∀c k d i,jz i j (.slice c k d) (g++a)->bj (fun H=>h.ownBlock=some H) f i->((Value.slice c k d).ownBlock=h.ownBlock\/(Value.slice c k d).ownBlock=some f.heap.size)->p (b.put e.dst (.slice c k d)) i):
  if Region.wanted e (yielded s b.tmps)=true then Oper.wp Tryz.prog e b f p u else t:=by
 have F:Region.wanted e (yielded s b.tmps)=true:=by simp[Region.wanted,z]
 rw[if_pos F];subst B;refine dQ n o 78 C j 84 _ 3 40 Tryz.underlying78 Tryz.infoItem rfl (by decide) h g.length (nx g) E D l a.length q (nx a) G (IJ a) A (DY a) (by unfold maxLen;omega) (by omega) x ?_;intro J i m y w;rw[<-xZ]at m;obtain⟨c,d,rfl,_⟩:=Nj m;refine v c _ d i ?_ y w;unfold jz;rw[XM];exact m
theorem Aq.take{g:World}{d:Option Addr}{a:List ej}(i:Aq g d a)(b:Nat)(f:b<=a.length):Aq g d (a.take b):=by
 intro c j;have h:=VV XW 3 a (fun _ _=>rfl) b f;have l:(nx a)[c]? =some ((nx (a.take b))[c]):=by
  have e:(nx (a.take b))[c]? =((nx a).take (b*3))[c]? :=by unfold nx;rw[h]
  have k:c<b*3:=by
   have:=IJ (a.take b);rw[aN,LN f]at this;omega
  rw[Yaj k]at e;rw[<-e];exact UM j
 exact jj.at i l
theorem Aq.drop{g:World}{c d:Nat}{b:List ej}(i:Aq g (some ⟨c,d,none⟩) b)(a:Nat)(m:a<=b.length):Aq g (some ⟨c,d+a*3,none⟩) (b.drop a):=by
 intro f e;have h:=NQ XW 3 b (fun _ _=>rfl) a m;have n:(nx b)[a*3+f]? =some ((nx (b.drop a))[f]):=by
  rw[<-oaj];unfold nx at e⊢;rw[h];exact UM e
 obtain⟨o,p,j,k,l⟩:=jj.at i n;cases j;exact⟨c,d+a*3,rfl,k,by rw[paj];exact l⟩
theorem tz(h:Option Addr)(c n:Nat)(a:List UInt8)(d:World)(s:c=a.length)(r:a.length<=maxLen)(p:jq d h a):
  CP 10 #[.slice h c n] d fun o u=>o=.returned (By a)/\Below d.heap.size d u:=by
 subst s;unfold maxLen at r;go_enter Tryz.func10,Tryz.ntmps10;go_wp2
 go_loop [3,4] (fun c e=>∃b:Nat,b<=a.length/\e=.int .i64 b/\c=.int .u64 (Xv (a.take b))) (fun _ e=>a.length - (intOf e).toNat)
 case atStart=>exact⟨0,nN _,rfl,rfl⟩
 case round=>
  obtain⟨b,z,rfl,rfl⟩:=hrel;by_cases j:b<a.length
  .obtain⟨v,A,rfl,x,y⟩:=p b j;have t:=sZ (a.take b);have w:(a[b].toNat:Int)<256:=by have:=a[b].toNat_lt;omega
   have l:Hd (Xv (a.take (b+1))=tV (Xv (a.take b)) a[b]):=by rw[xX _ _ j];exact KQ _ _
   go_wp2
   go_round
   case rel=>exact⟨b+1,by omega,by go_num,by rw[l.o];unfold tV;with_reducible rfl⟩
   case measure=>simp[intOf];omega
  .have t:=sZ (a.take b);have k:Hd (a.take b=a):=aaj (by omega);go_wp2;rw[k.o];have f:=VZ (Xv a);have g:=CY (Bk (Xv a)) f.1 f.2;have i:Hd (By a=.agg ((VJ (Uw (Bk (Xv a)))).map fj).toArray):=rfl;rw[show(IntKind.u64.wrap (bits BinOp.xor IntKind.u64 (Xv a) (Xv a/4294967296)*11400714819323198485))=Bk (Xv a)from rfl];rw[show bits BinOp.xor IntKind.u64 (Bk (Xv a)) (Bk (Xv a)/536870912)=Uw (Bk (Xv a))from rfl];generalize Uw (Bk (Xv a))=m at*;have q:Hd (By a=_):=i.o.trans (congrArg Value.agg (Jy m g.1 g.2));clear i
   go_rounds 9
   go_returns;exact⟨by rw[q.o],by go_grown⟩
theorem FH(a:Int)(b:World)(e:0<=a):
  CP 108 #[.int .u64 a] b fun c d=>c=.returned (.int .u64 (Uw (Bk a)))/\d=b:=by
 go_enter Tryz.func108,Tryz.ntmps108;go_wp2;go_ret;exact⟨rfl,rfl⟩
theorem vV(a:Int)(b:World)(f:0<=a)(g:a<18446744073709551616):
  CP 107 #[.int .u64 a] b fun e i=>e=.returned (.agg ((VJ a).map fj).toArray)/\∃c d:Array Value,i=(b.alloc (.cells c 36)).alloc (.cells d 36):=by
 have h:Hd (((VJ a).map fj).toArray=_):=Jy a f g;go_enter Tryz.func107,Tryz.ntmps107;go_wp2
 go_rounds 9
 go_returns;exact⟨by rw[h.o],_,_,rfl⟩
theorem VF(h:Option Addr)(o:Nat)(a:List UInt8)(g:World)(r:a.length<=maxLen)(p:jq g h a):
  CP 67 #[.slice h a.length o] g fun d t=>d=.returned (By a)/\∃i j n:Array Value,t=((g.alloc (.cells i 36)).alloc (.cells j 36)).alloc (.cells n 36):=by
 unfold maxLen at r;go_enter Tryz.func67,Tryz.ntmps67;go_wp2
 go_loop [3,8] (fun s f=>∃b:Nat,b<=a.length/\f=.int .i64 b/\s=.int .u64 (Xv (a.take b))) (fun _ f=>a.length - (intOf f).toNat)
 case atStart=>exact⟨0,nN _,rfl,rfl⟩
 case round=>
  obtain⟨b,z,rfl,rfl⟩:=hrel;by_cases k:b<a.length
  .obtain⟨v,A,rfl,x,y⟩:=p b k;have e:=sZ (a.take b);have w:(a[b].toNat:Int)<256:=by have:=a[b].toNat_lt;omega
   have m:Hd (Xv (a.take (b+1))=tV (Xv (a.take b)) a[b]):=by rw[xX _ _ k];exact KQ _ _
   go_wp2
   go_round
   case rel=>exact⟨b+1,by omega,by go_num,by rw[m.o];unfold tV;with_reducible rfl⟩
   case measure=>simp[intOf];omega
  .have e:=sZ (a.take b);have l:Hd (a.take b=a):=aaj (by omega);go_wp2_with fail;rw[l.o]at e⊢;have c:=WW a;refine(FH _ _ e.1).mono ?_;rintro d u ⟨rfl,rfl⟩;rw[show Uw (Bk (Xv a))=JQ a from rfl];go_wp2_with fail;refine(vV (JQ a) _ c.1 c.2).mono ?_;rintro d u ⟨rfl,i,j,rfl⟩;have q:Hd (By a=_):=congrArg Value.agg (Jy (JQ a) c.1 c.2);rw[Jy (JQ a) c.1 c.2];go_wp2;go_returns;exact⟨by rw[q.o],_,_,_,rfl⟩
theorem xU(c:Option Addr)(h e:Nat)(a:List UInt8)(b:World)(k:h=a.length)(j:a.length<=maxLen)(i:jq b c a):
  CP 35 #[.slice c h e] b fun f l=>f=.returned (By a)/\Below b.heap.size b l:=by
 subst k;have d:=WW a;have g:Hd (By a=_):=congrArg Value.agg (Jy (JQ a) d.1 d.2);go_enter Tryz.func35,Tryz.ntmps35;go_wp2_with fail;refine(VF c e a _ j (i.below tO (TM _))).mono ?_;rintro f p ⟨rfl,m,n,o,rfl⟩;rw[g.o];go_wp2;go_returns;exact⟨by rw[g.o],by go_grown⟩
def bt(a:Nat):UInt8:=UInt8.ofNat a
theorem Uk{a:Nat}(b:a<256):fj (bt a)=.int .u8 (a:Int):=by
 unfold fj bt;rw[UInt8.toNat_ofNat_of_lt' b]
def iJ(b:Nat)(a:ej):List UInt8:=bt a.key.length::a.key++((if b=0 then[bt a.more.length]else[])++a.more)
def Gj(b:Nat)(a:List ej):List UInt8:=bt b::bt a.length::a.flatMap (iJ b)
def Jq(a c:Nat)(b:List ej):List UInt8:=bt a::bt c::b.flatMap (iJ a)
def Dq(a:ej):Prop:=a.key.length<=12/\a.more.length<=12
theorem yU(c:Nat)(a:ej)(b:Dq a):(iJ c a).length<=26:=by
 obtain⟨d,e⟩:=b;unfold iJ
 split<;>simp<;>omega
theorem PQ(c:Nat):∀(a:List ej),(∀b∈a,Dq b)->(a.flatMap (iJ c)).length<=a.length*26
 |[],_=>by simp
 |b::a,d=>by
  have g:=PQ c a (fun f e=>d f (by simp[e]));have h:=yU c b (d b (by simp));rw[JN,XM,uN];omega
theorem Xw(c d:Nat)(b:List ej)(a:Nat)(e:a<b.length):Jq c d (b.take (a+1))=Jq c d (b.take a)++iJ c b[a]:=by
 unfold Jq;rw[RN e,KN];simp
theorem ox(b d:Nat)(a:List ej)(c:∀e∈a,Dq e):(Jq b d a).length<=a.length*26+2:=by
 have:=PQ b a c;unfold Jq;rw[uN,uN];omega
def Vk(b:World)(e:Nat)(c d:List Value)(a:World):Prop:=Below b.heap.size b a/\aj a b.heap.size 80 c/\aj a e 84 d
theorem Vk.next{f b h:World}{k:Nat}{g i:List Value}{j:Value}{m:List UInt8}(a:Vk f k g i b)(d:rj b (f.heap.size+1) j m)(c:bj (fun e=>j.ownBlock=some e) b h):Vk f k g i h:=by
 have n:=a.1.size;refine⟨a.1.trans (c.below (by omega) (fun e l=>by have:=(d.lt e l).1;omega)),a.2.1.of_block (c.block _ a.2.1.lt (xj d a.2.1 (by decide))),a.2.2.of_block (c.block _ a.2.2.lt (xj d a.2.2 (by decide)))⟩
theorem Vk.alloc{w c:World}{e:Nat}{b d:List Value}(a:Vk w e b d c)(f:Obj):Vk w e b d (c.alloc f):=⟨a.1.alloc a.1.size _,a.2.1.alloc _,a.2.2.alloc _⟩
theorem Vk.cells{c a:World}{d:Nat}{e f g h i:Value}(b:Vk c d [e,f] [g,h,i] a):a.cell? ⟨c.heap.size,0,none⟩=some e/\a.cell? ⟨c.heap.size,1,none⟩=some f/\a.cell? ⟨d,0,none⟩=some g/\a.cell? ⟨d,1,none⟩=some h:=
 ⟨b.2.1.cell 0 (by simp),b.2.1.cell 1 (by simp),b.2.2.cell 0 (by simp),b.2.2.cell 1 (by simp)⟩
theorem WZ(c:Nat)(j:Option Addr)(d m:Nat)(b:List ej)(e:World)(Q:d=b.length)(aT:b.length<=200)(b2:c<=200)(S:∀O∈b,Dq O)(U:Aq e j b):
  CP 86 #[.agg #[.int .i64 c,.slice j d m]] e fun a6 W=>∃k q l,a6=.returned (.slice k q l)/\rj W e.heap.size (.slice k q l) (Gj c b)/\Below e.heap.size e W:=by
 have P:rj ((e.alloc (.cells #[.int .i64 c,.slice j d m] 80)).alloc (.cells #[.int .u8 (c:Int),.int .u8 (d:Int)] 5)) (e.heap.size+1) (.slice (some ⟨e.heap.size+1,0,none⟩) 2 2) (Jq c d []):=by
  have:=rj.built (e.alloc (.cells #[.int .i64 c,.slice j d m] 80)) (e.heap.size+1) [bt c,bt d] (by simp) (by simp[maxLen]);simp only[YM,ZM,dN]at this;rw[Uk (by omega),Uk (by omega)]at this;exact this
 have T:aj ((e.alloc (.cells #[.int .i64 c,.slice j d m] 80)).alloc (.cells #[.int .u8 (c:Int),.int .u8 (d:Int)] 5)) e.heap.size 80 [.int .i64 c,.slice j d m]:=(aj.new e _ _).alloc _;have b3:(c:Int)<=200:=by omega
 have b6:(d:Int)<=200:=by omega
 have z:Hd (d=b.length):=Q;clear Q;go_enter Tryz.func86,Tryz.ntmps86;go_wp2
 go_loopw [3,4] (fun g M wr=>∃(a q l:Nat) (k:Option Addr),a<=d/\M=.int .i64 a/\g=.slice k q l/\rj wr (e.heap.size+1) (.slice k q l) (Jq c d (b.take a))/\Below e.heap.size e wr/\aj wr e.heap.size 80 [.int .i64 c,.slice j d m]) (fun _ M _=>d - (intOf M).toNat)
 case atStart=>exact⟨0,2,2,_,by omega,by simp,rfl,by simpa using P,by go_grown,T⟩
 case round=>
  obtain⟨a,q,l,k,aP,rfl,rfl,o,f,L⟩:=hrel;have ag:=L.cell 0 (by simp);have h:=L.cell 1 (by simp);simp only[cN,gN]at ag h;by_cases b0:a<d
  .have y:a<b.length:=by have:=z.o;omega
   obtain⟨g,r,rfl,E,Y,Z,a0⟩:=Aq.cells U a y;have ba:wr.cell? ⟨g,r+a*3,none⟩=some (.string ⟨b[a].key.toArray⟩):=by rw[f.cell (p:=⟨g,r+a*3,none⟩) E];exact Y
   have bb:wr.cell? ⟨g,r+a*3+1,none⟩=some (.string ⟨b[a].more.toArray⟩):=by rw[f.cell (p:=⟨g,r+a*3+1,none⟩) E];exact Z
   have bc:wr.cell? ⟨g,r+a*3+2,none⟩=some (.int .i64 (b[a].below:Int)):=by rw[f.cell (p:=⟨g,r+a*3+2,none⟩) E];exact a0
   clear Y Z a0 P T U;obtain⟨aR,b4⟩:=S b[a] (bN y);have V:Vk e wr.heap.size [.int .i64 c,.slice (some ⟨g,r,none⟩) d m] [.string ⟨b[a].key.toArray⟩,.string ⟨b[a].more.toArray⟩,.int .i64 (b[a].below:Int)] (wr.alloc (.cells #[.string ⟨b[a].key.toArray⟩,.string ⟨b[a].more.toArray⟩,.int .i64 (b[a].below:Int)] 84)):=
    ⟨f.alloc f.size _,L.alloc _,aj.new wr _ _⟩
   have i:Hd ((Jq c d (b.take a)).length<=6000):=by
    have:=ox c d (b.take a) (fun O ap=>S O (TN ap));rw[aN]at this;unfold Hd;omega
   have aS:(b[a].key.length:Int)<=12:=by omega
   have b5:(b[a].more.length:Int)<=12:=by omega
   have b1:(a:Int)<d:=by omega
   by_cases v:c=0
   .have ai:((c:Int)==0)=true:=by simp[v]
    have A:Hd (Jq c d (b.take (a+1))=Jq c d (b.take a)++[bt b[a].key.length]++b[a].key++[bt b[a].more.length]++b[a].more):=by
     unfold Hd;rw[Xw c d b a y];simp[iJ,v]
    clear v;go_wp2_with (first
     |(at_builtin;refine Hq (by rfl) (.tmp 26) (.tmp 31) (by rfl) (e.heap.size+1) _ (Jq c d (b.take a)) (by rfl) (by exact(o.alloc _).alloc _) (some ⟨wr.heap.size+1,0,none⟩) 1 1 [bt b[a].key.length] (by rfl) (by rfl) (by exact jq.of_row (t:=5) (by rw[ZM,dN,Uk (by omega)];exact aj.new_at _ _ _ _ (by simp))) (fun s=>by cases s) (by have:=i.o;simp only[XM,uN,baj]at this⊢;omega) (by have:=f.size;simp only[YM];omega) ?_;intro a2 ar a4 ax J w am G D;have h:=(V.alloc _).next ((o.alloc _).alloc _) G;obtain⟨a7,a8,a9,aa⟩:=h.cells;clear J D)
     |(at_builtin;refine Tk (by rfl) (.tmp 33) (.tmp 35) (by rfl) (e.heap.size+1) _ (Jq c d (b.take a)++[bt b[a].key.length]) (by rfl) w b[a].key (by rfl) (by have:=i.o;simp only[XM,uN,baj]at this⊢;omega) (by have:=f.size;have:=h.2.1.lt;omega) ?_;intro a3 au a5 X x an H;have n:=h.next w H;obtain⟨ab,ac,ad,ae⟩:=n.cells)
     |(at_builtin;refine Hq (by rfl) (.tmp 40) (.tmp 45) (by rfl) (e.heap.size+1) _ (Jq c d (b.take a)++[bt b[a].key.length]++b[a].key) (by rfl) (by exact x.alloc _) (some ⟨X.heap.size,0,none⟩) 1 1 [bt b[a].more.length] (by rfl) (by rfl) (by exact jq.of_row (t:=5) (by rw[ZM,dN,Uk (by omega)];exact aj.new_at _ _ _ _ (by simp))) (fun s=>by cases s) (by have:=i.o;simp only[XM,uN,baj]at this⊢;omega) (by have:=f.size;have:=n.2.1.lt;simp only[YM];omega) ?_;intro aB b8 aC b9 ak R b7 ah af;have F:=(n.alloc _).next (x.alloc _) ah;obtain⟨aD,aE,aI,aO⟩:=F.cells;clear ak af)
     |(at_builtin;refine Tk (by rfl) (.tmp 47) (.tmp 49) (by rfl) (e.heap.size+1) _ (Jq c d (b.take a)++[bt b[a].key.length]++b[a].key++[bt b[a].more.length]) (by rfl) R b[a].more (by rfl) (by have:=i.o;simp only[XM,uN,baj]at this⊢;omega) (by have:=f.size;have:=F.2.1.lt;omega) ?_;intro B N C aA K ao I;have u:=F.next R I))
    refine⟨⟨a+1,N,C,B,by omega,by go_num,rfl,?_,u.1,u.2.1⟩,by simp[intOf];omega⟩;rw[A.o];exact K
   .have ai:((c:Int)==0)=false:=by simp;omega
    have A:Hd (Jq c d (b.take (a+1))=Jq c d (b.take a)++[bt b[a].key.length]++b[a].key++b[a].more):=by
     unfold Hd;rw[Xw c d b a y];simp[iJ,v]
    clear v;go_wp2_with (first
     |(at_builtin;refine Hq (by rfl) (.tmp 26) (.tmp 31) (by rfl) (e.heap.size+1) _ (Jq c d (b.take a)) (by rfl) (by exact(o.alloc _).alloc _) (some ⟨wr.heap.size+1,0,none⟩) 1 1 [bt b[a].key.length] (by rfl) (by rfl) (by exact jq.of_row (t:=5) (by rw[ZM,dN,Uk (by omega)];exact aj.new_at _ _ _ _ (by simp))) (fun s=>by cases s) (by have:=i.o;simp only[XM,uN,baj]at this⊢;omega) (by have:=f.size;simp only[YM];omega) ?_;intro a2 ar a4 ax J w am G D;have h:=(V.alloc _).next ((o.alloc _).alloc _) G;obtain⟨a7,a8,a9,aa⟩:=h.cells;clear J D)
     |(at_builtin;refine Tk (by rfl) (.tmp 33) (.tmp 35) (by rfl) (e.heap.size+1) _ (Jq c d (b.take a)++[bt b[a].key.length]) (by rfl) w b[a].key (by rfl) (by have:=i.o;simp only[XM,uN,baj]at this⊢;omega) (by have:=f.size;have:=h.2.1.lt;omega) ?_;intro a3 au a5 X x an H;have n:=h.next w H;obtain⟨ab,ac,ad,ae⟩:=n.cells)
     |(at_builtin;refine Tk (by rfl) (.tmp 47) (.tmp 49) (by rfl) (e.heap.size+1) _ (Jq c d (b.take a)++[bt b[a].key.length]++b[a].key) (by rfl) x b[a].more (by rfl) (by have:=i.o;simp only[XM,uN,baj]at this⊢;omega) (by have:=f.size;have:=n.2.1.lt;omega) ?_;intro B N C aA K ao I;have u:=n.next x I))
    refine⟨⟨a+1,N,C,B,by omega,by go_num,rfl,?_,u.1,u.2.1⟩,by simp[intOf];omega⟩;rw[A.o];exact K
  .have a1:Hd (Jq c d (b.take a)=Gj c b):=by
    unfold Hd Jq Gj;rw[aaj (by have:=z.o;omega),z.o]
   go_wp2;go_ret;refine⟨k,q,l,rfl,?_,f⟩;rw[a1.o]at o;exact Hj o (fun av al=>by have:=(o.lt av al).1;omega)
def Sx(a:Nat)(b:List UInt8):Bool:=decide (a<6)&&((Aj (bt a::b)).getD 7 0).toNat%4==0
theorem EY(a:Nat):((a:Int)%4==0)=(a%4==0):=by
 rw[caj];simp;omega
theorem WF(a:Nat)(c:List UInt8)(b:World)(I:a<=200)(l:c.length<=200):
  CP 144 #[.int .i64 a,.string ⟨c.toArray⟩] b fun g w=>g=.returned (.bool (Sx a c))/\Below b.heap.size b w:=by
 have J:(a:Int)<=200:=by omega
 have q:rj (b.alloc (.cells #[.int .u8 (a:Int)] 5)) b.heap.size (.slice (some ⟨b.heap.size,0,none⟩) 1 1) [bt a]:=by
  have:=rj.built b b.heap.size [bt a] (TM _) (by simp[maxLen]);simp only[ZM,dN]at this;rw[Uk (by omega)]at this;exact this
 obtain⟨e,f⟩:∃e,e=Aj (bt a::c):=⟨_,rfl⟩;have k:e.length=8:=by rw[f];rfl
 obtain⟨x,y,z,A,C,D,E,d,rfl⟩:=uj e k;have m:Hd (Sx a c=(decide (a<6)&&d.toNat%4==0)):=by
  unfold Hd Sx;rw[<-f];rfl
 have n:Hd (By (bt a::c)=.agg (cO x y z A C D E d)):=by
  unfold Hd;rw[kx,<-f];rfl
 clear f k;have H:(d.toNat:Int)<=255:=by have:=d.toNat_lt;omega
 by_cases j:a<6
 all_goals
  have G:Hd (((a:Int)<6)↔a<6):=by unfold Hd;omega
  go_enter Tryz.func144,Tryz.ntmps144;go_wp2_with (at_builtin;refine Tk (by rfl) (.tmp 10) (.tmp 11) (by rfl) b.heap.size _ [bt a] (by rfl) q c (by rfl) (by simp;omega) (by simp) ?_;intro o M p N u v s);obtain⟨_,t,K⟩:=u.sl;refine(tz o _ p (bt a::c) _ (by rw[t];simp) (by simp[maxLen];omega) (by simpa using v)).mono ?_;rintro g O ⟨rfl,r⟩;rw[n.o];go_wp2;go_ret;refine⟨?_,?_⟩
  .rw[m.o]
   first
    |(show Ending.returned (.bool ((d.toNat:Int)%4==0))=_;rw[EY];simp[j];done)
    |(show Ending.returned (.bool false)=_;simp[j];done)
  .have h:=s.below (B:=b.heap.size) (by simp) (fun L l=>by simp[Value.ownBlock]at l;omega);have F:=h.size;simp only[YM]at F;have i:=(((VM b.heap.size b).alloc (TM _) (.cells #[.int .u8 (a:Int)] 5)).trans h).trans (r.mono (by omega));exact i.alloc (by have:=i.size;omega) _
def pq(b:Nat):List ej->List ej->List (List ej)
 |[],a=>[a]
 |d::c,a=>if(Sx b d.key&& !c.isEmpty)=true then(a++[d])::pq b c []else pq b c (a++[d])
def nj(b:Nat)(a:List ej):List (List ej):=pq b a []
structure dj where
 a:Option Addr
 n:Nat
 cap:Nat
def dj.val(a:dj):Value:=.slice a.a a.n a.cap
abbrev eO(s t:dj):Array Value:=#[.slice s.a s.n s.cap,.slice t.a t.n t.cap,.int .u8 0,.int .u8 0,.int .u8 0,.int .u8 0,.int .u8 0,.int .u8 0,.int .u8 0,.int .u8 0]
abbrev mO(s:dj)(a b c d e f g h:UInt8):Array Value:=#[.slice s.a s.n s.cap,.slice none 0 0,.int .u8 a.toNat,.int .u8 b.toNat,.int .u8 c.toNat,.int .u8 d.toNat,.int .u8 e.toNat,.int .u8 f.toNat,.int .u8 g.toNat,.int .u8 h.toNat]
abbrev xO(s t:dj)(a b c d e f g h:UInt8):Array Value:=#[.slice s.a s.n s.cap,.slice t.a t.n t.cap,.int .u8 a.toNat,.int .u8 b.toNat,.int .u8 c.toNat,.int .u8 d.toNat,.int .u8 e.toNat,.int .u8 f.toNat,.int .u8 g.toNat,.int .u8 h.toNat]
def QQ(a:Nat)(b:dj×List ej):List Value:=[.int .i64 a,b.1.val]
def Fk(a:Nat)(b:List (dj×List ej)):List Value:=b.flatMap (QQ a)
theorem WK(b:Nat)(a:List (dj×List ej)):(Fk b a).length=a.length*2:=Jx (QQ b) 2 a (fun _ _=>rfl)
theorem XK(a:Nat)(b c:List (dj×List ej)):Fk a (b++c)=Fk a b++Fk a c:=by simp[Fk]
theorem GH(d:Nat)(e:List (dj×List ej)):∀b∈Fk d e,b.oneCell'=true:=fun b c=>by
 obtain⟨f,_,a⟩:=Eaj.1 c;simp only[QQ,dj.val,IN,jaj,or_false]at a;rcases a with rfl|rfl<;>rfl
def JJ(e:World)(b:Nat)(d:Value)(c:Nat)(a:List (dj×List ej)):Prop:=e.ownsRow b 80 2 d a.length (Fk c a)
theorem Tryz.infoPage:(Tryz.prog.info? 80).map (fun a=>(a.zero,a.size,a.bytes))=some (some (.agg #[.int .i64 0,.slice none 0 0]),2,32):=by kernel_rfl
def eQ(c:World)(b:Nat)(a:dj×List ej):Prop:=jz c b a.1.val a.2
def MM(f:World)(c:Nat)(e:Value)(d:List (dj×List ej)):Prop:=∀b∈d,eQ f c b/\(∀a,b.1.val.ownBlock=some a->e.ownBlock≠some a)
theorem eQ.frame{d e:World}{S:Nat->Prop}{b:Nat}{a:dj×List ej}(f:eQ d b a)(h:bj S d e)(g:∀c,a.1.val.ownBlock=some c->¬S c):eQ e b a:=ij f h g
theorem zX{e:World}{s:Array Oper}{rest:List Oper}{l:Oper}{i:Act}{r:Exit->Act->World->Prop}(x:l.guard=none)(p q:Operand)
  (z:l.op=.call {callee:=.builtin .append,args:=#[p,q],argTypes:=#[188,188]})
  (j:Nat)(g:Value)(a:Nat)(f:List (dj×List ej))(B:i.eval p=g)(A:JJ e j g a f)
  (m:Addr)(b:dj×List ej)(C:i.eval q=.slice (some m) 1 1)(y:jj e (some m) (QQ a b))
  (E:f.length<=1000000)(v:j<=e.heap.size)
  (n:∀c k d h,JJ h j (.slice c k d) a (f++[b])->bj (fun D=>g.ownBlock=some D) e h->((Value.slice c k d).ownBlock=g.ownBlock\/(Value.slice c k d).ownBlock=some e.heap.size)->wpList Tryz.prog s r rest (i.put l.dst (.slice c k d)) h):
  wpList Tryz.prog s r (l::rest) i e:=by
 have t:QQ a b=Fk a [b]:=by simp[Fk]
 refine rq x p q 188 z j 80 _ 2 32 Tryz.underlying188 Tryz.infoPage rfl (by decide) g f.length (Fk a f) B A (some m) 1 1 (Fk a [b]) C (WK a [b]) (by rw[<-t];exact y) (fun n=>by cases n) (GH a [b]) (by unfold maxLen;omega) (by omega) v ?_;intro F h o w u;rw[<-XK]at o;obtain⟨c,d,rfl,_⟩:=Nj o;refine n c _ d h ?_ w u;unfold JJ;rw[XM];exact o
theorem Dv{i:World}{j k e f r s p q:Nat}{g h:Value}{t u:List Value}(l:i.ownsRow j e r g p t)(m:i.ownsRow k f s h q u)(o:e≠f):∀d,g.ownBlock=some d->h.ownBlock≠some d:=by
 intro d b c;rcases l.2 with⟨rfl,_⟩|⟨z,v,x,rfl,B,n,_⟩
 .simp[Value.ownBlock]at b
 rcases m.2 with⟨rfl,_⟩|⟨A,w,y,rfl,C,a,_⟩
 .simp[Value.ownBlock]at c
 simp[Value.ownBlock]at b c;subst b;subst c;rw[n]at a;simp at a;exact o a.2
structure Zz(w:World)(level:Nat)(W:World)(out cur:dj)(ps:List (dj×List ej))(curL:List ej):Prop where
 hb:Below w.heap.size w W
 hp:aj W w.heap.size 80 [.int .i64 level,cur.val]
 ho:JJ W (w.heap.size+1) out.val level ps
 hc:jz W (w.heap.size+1) cur.val curL
 hq:MM W (w.heap.size+1) cur.val ps
theorem Zz.next{l c d:World}{h:Nat}{i e:dj}{j:List (dj×List ej)}{f:List ej}(a:Zz l h c i e j f)(b:Below c.heap.size c d):Zz l h d i e j f:=
 ⟨a.hb.trans (b.mono a.hb.size),a.hp.below a.hp.lt b,lj a.ho b,lj a.hc b,fun k g=>⟨lj (a.hq k g).1 b,(a.hq k g).2⟩⟩
theorem Zz.drew{h b:World}{e:Nat}{f c:dj}{g:List (dj×List ej)}{d:List ej}(a:Zz h e b f c g d):Zz h e b.drew f c g d:=
 ⟨a.hb.drew,a.hp,a.ho,a.hc,a.hq⟩
theorem Zz.alloc{w a:World}{d:Nat}{f b:dj}{g:List (dj×List ej)}{c:List ej}(h:Zz w d a f b g c)(e:Obj):Zz w d (a.alloc e) f b g c:=
 h.next ((VM _ _).alloc (TM _) e)
theorem Zz.push{d j f:World}{i:Nat}{m cur cur':dj}{n:List (dj×List ej)}{k:List ej}{v:ej}(e:Zz d i j m cur n k)
  (t:jz f (d.heap.size+1) cur'.val (k++[v]))(h:bj (fun a=>cur.val.ownBlock=some a) j f)(g:cur'.val.ownBlock=cur.val.ownBlock\/cur'.val.ownBlock=some j.heap.size):
  Zz d i (f.setCell ⟨d.heap.size,1,none⟩ cur'.val) m cur' n (k++[v]):=by
 have x:aj f d.heap.size 80 [.int .i64 i,cur.val]:=e.hp.of_block (h.block _ e.hp.lt (fun c=>xj e.hc e.hp (by decide) c));have w:Below d.heap.size d f:=e.hb.trans (h.below (by have:=e.hb.size;omega) (fun a b=>by have:=(e.hc.lt a b).1;omega));have l:bj (fun a=>a=d.heap.size) f (f.setCell ⟨d.heap.size,1,none⟩ cur'.val):=(bj.refl (fun a=>a=d.heap.size) _).setCell (p:=⟨d.heap.size,1,none⟩) rfl _;have u:JJ f (d.heap.size+1) m.val i n:=ij e.ho h (fun a b c=>Dv e.ho e.hc (by decide) a b c);refine⟨w.setCell (TM _) _,by simpa using x.set 1 cur'.val,?_,?_,?_⟩
 .exact ij u l (fun a b c=>by have:=(u.lt a b).1;omega)
 .exact ij t l (fun a b c=>by have:=(t.lt a b).1;omega)
 .intro q y;obtain⟨o,s⟩:=e.hq q y;have r:eQ f (d.heap.size+1) q:=o.frame h (fun a b c=>s a b c);refine⟨r.frame l (fun a b c=>by have:=(r.lt a b).1;omega),fun a b c=>?_⟩;rcases g with g|g
  .rw[g]at c;exact s a b c
  .rw[g]at c;have:=(o.lt a b).2;cases c;omega
theorem Zz.flush{c o f l:World}{k:Nat}{u out' h:dj}{n:List (dj×List ej)}{i:List ej}(e:Zz c k o u h n i)
  (t:JJ f (c.heap.size+1) out'.val k (n++[(h,i)]))(m:bj (fun a=>u.val.ownBlock=some a) o f)
  (w:aj l c.heap.size 80 [.int .i64 k,.slice none 0 0])(j:bj (fun a=>a=c.heap.size) f l):
  Zz c k l out' ⟨none,0,0⟩ (n++[(h,i)]) []:=by
 have r:Below c.heap.size c f:=e.hb.trans (m.below (by have:=e.hb.size;omega) (fun a b=>by have:=(e.ho.lt a b).1;omega));have x:=r.size;have s:jz f (c.heap.size+1) h.val i:=ij e.hc m (fun a b d=>Dv e.hc e.ho (by decide) a b d);refine⟨r.trans (j.below (by omega) (fun a b=>by omega)),w,ij t j (fun a b d=>by have:=(t.lt a b).1;omega),iN _ _ _ _,?_⟩;intro v g;refine⟨?_,fun a _ d=>by simp[dj.val,Value.ownBlock]at d⟩;rcases fN.1 g with g|g
 .have p:=(e.hq v g).1;have q:eQ f (c.heap.size+1) v:=p.frame m (fun a b d=>Dv p e.ho (by decide) a b d);exact q.frame j (fun a b d=>by have:=(q.lt a b).1;omega)
 .simp only[eN]at g;subst g;exact ij s j (fun a b d=>by have:=(s.lt a b).1;omega)
def zU(a:World)(d:Nat)(e:List ej)(f:dj)(c:World):Prop:=
 ∃b:List (dj×List ej),JJ c a.heap.size f.val d b/\(∀g∈b,eQ c a.heap.size g)/\b.map (·.2)=nj d e/\Below a.heap.size a c
theorem AU(c:Nat)(a5:Option Addr)(m ae:Nat)(b:List ej)(d:World)(a9:m=b.length)(aS:b.length<=200)(ao:c<=200)(ap:∀aA∈b,Dq aA)(ar:Aq d a5 b):
  CP 120 #[.int .i64 c,.slice a5 m ae] d fun o ax=>∃f:dj,o=.returned (.slice f.a f.n f.cap)/\zU d c b f ax:=by
 have au:Zz d c (d.alloc (.cells #[.int .i64 c,.slice none 0 0] 80)) ⟨none,0,0⟩ ⟨none,0,0⟩ [] []:=
  ⟨tO,aj.new d _ _,iN _ _ _ _,iN _ _ _ _,fun Q q=>by cases q⟩
 have U:Hd (m=b.length):=a9;have b3:(m:Int)<=200:=by omega
 have b2:(c:Int)<=200:=by omega
 clear a9;go_enter Tryz.func120,Tryz.ntmps120;go_wp2
 go_loopw [5,7] (fun r a0 wr=>∃(a:Nat) (f e:dj) (h:List (dj×List ej)) (g:List ej),a<=m/\a0=.int .i64 a/\r=.slice f.a f.n f.cap/\Zz d c wr f e h g/\g.length+h.length<=a/\Hd (h.map (·.2)++pq c (b.drop a) g=nj c b)) (fun _ a0 _=>m - (intOf a0).toNat)
 case atStart=>exact⟨0,_,_,[],[],by omega,by simp,rfl,au,by simp,by simp[Hd,nj]⟩
 case round=>
  obtain⟨a,f,e,h,g,z,rfl,rfl,k,aO,J⟩:=hrel;have a7:=k.hp.cell 0 (by simp);have a8:=k.hp.cell 1 (by simp);simp only[cN,gN,dj.val]at a7 a8;have am:=k.hp.frozen 0;have D:=k.hp.frozen 1;by_cases b0:a<m
  .have X:a<b.length:=by have:=U.o;omega
   obtain⟨t,r,rfl,N,ab,aB,aC⟩:=Aq.cells ar a X;have aD:wr.cell? ⟨t,r+a*3,none⟩=some (.string ⟨b[a].key.toArray⟩):=by rw[k.hb.cell (p:=⟨t,r+a*3,none⟩) N];exact ab
   have aE:wr.cell? ⟨t,r+a*3+1,none⟩=some (.string ⟨b[a].more.toArray⟩):=by rw[k.hb.cell (p:=⟨t,r+a*3+1,none⟩) N];exact aB
   have aI:wr.cell? ⟨t,r+a*3+2,none⟩=some (.int .i64 (b[a].below:Int)):=by rw[k.hb.cell (p:=⟨t,r+a*3+2,none⟩) N];exact aC
   have aP:(0:Int)<=(a:Int):=abj _;have aR:(a:Int)<(m:Int):=by omega
   have al:=k.hb.size;have b4:=k.hp.lt;have H:Hd (jz (wr.drew.alloc (.cells #[.string ⟨b[a].key.toArray⟩,.string ⟨b[a].more.toArray⟩,.int .i64 (b[a].below:Int)] 84)) (d.heap.size+1) (.slice e.a e.n e.cap) g):=k.drew.hc.alloc _;have a4:Hd (Aq (wr.drew.alloc (.cells #[.string ⟨b[a].key.toArray⟩,.string ⟨b[a].more.toArray⟩,.int .i64 (b[a].below:Int)] 84)) (some ⟨wr.heap.size,0,none⟩) [b[a]]):=jj.alloc_new wr.drew (nx [b[a]]) _;have a3:Hd (g.length+[b[a]].length<=1000000):=by unfold Hd;simp;omega
   have a1:Hd (d.heap.size+1<=(wr.drew.alloc (.cells #[.string ⟨b[a].key.toArray⟩,.string ⟨b[a].more.toArray⟩,.int .i64 (b[a].below:Int)] 84)).heap.size):=by unfold Hd;simp;omega
   have K:Hd (aj (wr.drew.alloc (.cells #[.string ⟨b[a].key.toArray⟩,.string ⟨b[a].more.toArray⟩,.int .i64 (b[a].below:Int)] 84)) d.heap.size 80 [.int .i64 c,e.val]):=k.drew.hp.alloc _;have R:Hd (BB d (wr.drew.alloc (.cells #[.string ⟨b[a].key.toArray⟩,.string ⟨b[a].more.toArray⟩,.int .i64 (b[a].below:Int)] 84))):=k.drew.hb.alloc al _;go_wp2
   go_region_law
    ((refine OQ (by rfl) (.tmp 18) (.tmp 23) (by rfl) (d.heap.size+1) (.slice e.a e.n e.cap) g (by rfl) H.o ⟨wr.heap.size,0,none⟩ 1 1 [b[a]] (by rfl) rfl a4.o a3.o a1.o ?_;intro i l j A aa D a6;have Y:aj A d.heap.size 80 [.int .i64 c,e.val]:=K.o.of_block (D.block _ K.o.lt (fun o=>xj H.o K.o (by decide) o));have af:A.cell? ⟨d.heap.size,1,none⟩=some (.slice e.a e.n e.cap):=Y.cell 1 (Nat.lt_succ_self 1);have ag:A.frozen? ⟨d.heap.size,1,none⟩=false:=Y.frozen 1;have ah:Below d.heap.size d A:=R.o.trans (D.below R.o.size (fun a z=>Nat.le_of_succ_le (H.o.lt a z).1))))
   all_goals
    have Z:Zz d c (A.setCell ⟨d.heap.size,1,none⟩ (.slice i l j)) f ⟨i,l,j⟩ h (g++[b[a]]):=Zz.push (cur':=⟨i,l,j⟩) (k.drew.alloc (.cells #[.string ⟨b[a].key.toArray⟩,.string ⟨b[a].more.toArray⟩,.int .i64 (b[a].below:Int)] 84)) aa D a6;have av:(A.setCell ⟨d.heap.size,1,none⟩ (.slice i l j)).cell? ⟨t,r+a*3,none⟩=some (.string ⟨b[a].key.toArray⟩):=(Z.hb.cell (p:=⟨t,r+a*3,none⟩) N).trans ab;clear af ag aD aE aI H a4 a3 a1 K R Y ah a7 a8 am aa D a6;go_wp2_with fail;refine(WF c b[a].key _ ao (by have:=(ap b[a] (bN X)).1;omega)).mono ?_;rintro o B ⟨rfl,ak⟩;have s:=Z.next ak;clear Z av;have ac:=s.hp.cell 0 (by simp);have ad:=s.hp.cell 1 (by simp);simp only[cN,gN,dj.val]at ac ad;have S:Hd (b.drop a=b[a]::b.drop (a+1)):=naj X;have a2:Hd ((b.drop (a+1)).isEmpty=decide (m<=a+1)):=by
     unfold Hd;rw[caj,List.isEmpty_iff,List.drop_eq_nil_iff,U.o];simp
    by_cases v:Sx c b[a].key=true
    .by_cases aT:a+1<m
     .have an:(a:Int)+1<m:=by omega
      have C:Hd ((h++[((⟨i,l,j⟩:dj),g++[b[a]])]).map (·.2)++pq c (b.drop (a+1)) []=nj c b):=by
       have n:=J.o;rw[S.o,pq,if_pos (by rw[v,a2.o];simp;omega)]at n;unfold Hd;simpa using n
      have I:Hd (JJ (B.alloc (.cells #[.int .i64 c,.slice i l j] 80)) (d.heap.size+1) (.slice f.a f.n f.cap) c h):=s.ho.alloc _;have V:Hd (jj (B.alloc (.cells #[.int .i64 c,.slice i l j] 80)) (some ⟨B.heap.size,0,none⟩) (QQ c (⟨i,l,j⟩,g++[b[a]]))):=jj.alloc_new B _ _;have T:Hd (h.length<=1000000):=by unfold Hd;omega
      have W:Hd (d.heap.size+1<=(B.alloc (.cells #[.int .i64 c,.slice i l j] 80)).heap.size):=by unfold Hd;have:=s.hp.lt;simp;omega
      rw[v];go_wp2_with (at_builtin;refine zX (by rfl) (.tmp 41) (.tmp 43) (by rfl) (d.heap.size+1) (.slice f.a f.n f.cap) c h (by rfl) I.o ⟨B.heap.size,0,none⟩ (⟨i,l,j⟩,g++[b[a]]) (by rfl) V.o T.o W.o ?_;intro L P M x O y ai;have F:aj x d.heap.size 80 [.int .i64 c,.slice i l j]:=(s.hp.alloc _).of_block (y.block _ (s.hp.alloc _).lt (fun o=>Nat.lt_irrefl _ (I.o.lt _ o).1));have b5:x.cell? ⟨d.heap.size,0,none⟩=some (.int .i64 c):=F.cell 0 (by simp);have b6:x.cell? ⟨d.heap.size,1,none⟩=some (.slice i l j):=F.cell 1 (by simp);have b7:x.frozen? ⟨d.heap.size,0,none⟩=false:=F.frozen 0;have b8:x.frozen? ⟨d.heap.size,1,none⟩=false:=F.frozen 1);refine⟨⟨a+1,⟨L,P,M⟩,⟨none,0,0⟩,h++[(⟨i,l,j⟩,g++[b[a]])],[],by omega,by go_num,rfl,?_,by simp;omega,C⟩,by simp[intOf];omega⟩;refine Zz.flush (out':=⟨L,P,M⟩) (s.alloc (.cells #[.int .i64 c,.slice i l j] 80)) O y ((F.set 0 _).set 1 _) ?_;exact((bj.refl (fun a=>a=d.heap.size) x).setCell (p:=⟨d.heap.size,0,none⟩) rfl _).setCell (p:=⟨d.heap.size,1,none⟩) rfl _
     .have an:¬(a:Int)+1<m:=by omega
      have C:Hd (h.map (·.2)++pq c (b.drop (a+1)) (g++[b[a]])=nj c b):=by
       have n:=J.o;rw[S.o,pq,if_neg (by rw[a2.o];simp;omega)]at n;exact n
      rw[v];go_wp2;exact⟨⟨a+1,f,⟨i,l,j⟩,h,g++[b[a]],by omega,by go_num,rfl,s,by simp;omega,C.o⟩,by simp[intOf];omega⟩
    .have v:Sx c b[a].key=false:=by simpa using v
     have C:Hd (h.map (·.2)++pq c (b.drop (a+1)) (g++[b[a]])=nj c b):=by
      have n:=J.o;rw[S.o,pq,if_neg (by rw[v];simp)]at n;exact n
     rw[v];go_wp2;exact⟨⟨a+1,f,⟨i,l,j⟩,h,g++[b[a]],by omega,by go_num,rfl,s,by simp;omega,C.o⟩,by simp[intOf];omega⟩
  .have I:Hd (JJ (wr.alloc (.cells #[.int .i64 c,.slice e.a e.n e.cap] 80)) (d.heap.size+1) (.slice f.a f.n f.cap) c h):=k.ho.alloc _;have V:Hd (jj (wr.alloc (.cells #[.int .i64 c,.slice e.a e.n e.cap] 80)) (some ⟨wr.heap.size,0,none⟩) (QQ c (e,g))):=jj.alloc_new wr _ _;have T:Hd (h.length<=1000000):=by unfold Hd;omega
   have W:Hd (d.heap.size+1<=(wr.alloc (.cells #[.int .i64 c,.slice e.a e.n e.cap] 80)).heap.size):=by unfold Hd;have:=k.hp.lt;simp;omega
   have b1:¬(a:Int)<m:=by omega
   go_wp2_with (at_builtin;refine zX (by rfl) (.tmp 47) (.tmp 49) (by rfl) (d.heap.size+1) (.slice f.a f.n f.cap) c h (by rfl) I.o ⟨wr.heap.size,0,none⟩ (e,g) (by rfl) V.o T.o W.o ?_;intro L P M x O y ai);go_ret;have w:=k.alloc (.cells #[.int .i64 c,.slice e.a e.n e.cap] 80);refine⟨⟨L,P,M⟩,rfl,h++[(e,g)],Hj O (fun Q q=>by have:=(O.lt Q q).1;omega),?_,?_,?_⟩
   .intro Q q;rcases fN.1 q with q|q
    .have u:=(w.hq Q q).1;exact Hj (ij u y (fun a z o=>Dv u w.ho (by decide) a z o)) (fun G E=>by have:=(u.lt G E).1;omega)
    .simp only[eN]at q;subst q;have u:=w.hc;exact Hj (ij u y (fun a z o=>Dv u w.ho (by decide) a z o)) (fun G E=>by have:=(u.lt G E).1;omega)
   .have n:=J.o;rw[xaj (by have:=U.o;omega),pq]at n;rw[rN];exact n
   .exact w.hb.trans (y.below (by have:=w.hb.size;omega) (fun G E=>by have:=(w.ho.lt G E).1;omega))
def cz(a:List ej):List UInt8:=(a.getLast?.map (·.key)).getD []
def bq(b:Nat):Nat->List (List ej)->List ej
 |_,[]=>[]
 |a,c::d=>⟨cz c,Aj (Gj b c),a⟩::bq b (a+1) d
def Eq:Nat->Nat->List ej->List (List (List ej))
 |0,_,_=>[]
 |c+1,a,b=>if(nj a b).length=1 then[nj a b]else nj a b::Eq c (a+1) (bq a 0 (nj a b))
def Rj(a:List ej):List (List (List ej)):=Eq 7 0 a
theorem Ly(c:Nat):∀(a b:List ej),1<=(pq c a b).length/\(pq c a b).length<=a.length+1
 |[],b=>by simp[pq]
 |d::a,b=>by
  unfold pq
  split
  .have:=Ly c a [];simp;omega
  .have:=Ly c a (b++[d]);simp;omega
theorem Kx(e:Nat):∀(a b:List ej),a≠[]->(pq e a b).length<=a.length
 |[],b,d=>absurd rfl d
 |g::a,b,_=>by
  unfold pq
  split
  .rename_i f
   have c:a≠[]:=by
    intro d;subst d;simp at f
   have:=Kx e a [] c;simp;omega
  .by_cases c:a=[]
   .subst c;simp[pq]
   .have:=Kx e a (b++[g]) c;simp;omega
theorem sJ(c:Nat)(d:¬c<6):∀(b a:List ej),pq c b a=[a++b]
 |[],a=>by simp[pq]
 |e::b,a=>by
  unfold pq;rw[if_neg (by simp[Sx,d]),sJ c d b];simp
theorem fQ(f:Nat):∀(c d:List ej),(c≠[]\/d≠[])->∀e∈pq f c d,e≠[]
 |[],d,b,e,a=>by
  simp[pq]at a;subst a;rcases b with b|b
  .exact absurd rfl b
  .exact b
 |i::c,d,b,e,a=>by
  unfold pq at a
  split at a
  .rename_i g
   have h:c≠[]:=by
    intro b;subst b;simp at g
   rcases IN.1 a with rfl|a
   .simp
   .exact fQ f c [] (SM h) e a
  .exact fQ f c (d++[i]) (RM (by simp)) e a
theorem Lw(h:Nat):∀(g d:List ej),∀f∈pq h g d,∀c∈f,c∈g\/c∈d
 |[],d,f,b,c,e=>by simp[pq]at b;subst b;exact RM e
 |i::g,d,f,b,c,e=>by
  unfold pq at b
  split at b
  .rcases IN.1 b with rfl|b
   .rcases fN.1 e with a|a
    .exact RM a
    .simp at a;subst a;exact SM (by simp)
   .rcases Lw h g [] f b c e with a|a
    .exact SM (by simp[a])
    .cases a
  .rcases Lw h g (d++[i]) f b c e with a|a
   .exact SM (by simp[a])
   .rcases fN.1 a with a|a
    .exact RM a
    .simp at a;subst a;exact SM (by simp)
theorem Wk(e:Nat):∀(d b:List ej),∀c∈pq e d b,c.length<=d.length+b.length
 |[],b,c,a=>by simp[pq]at a;subst a;simp
 |f::d,b,c,a=>by
  unfold pq at a
  split at a
  .rcases IN.1 a with rfl|a
   .simp;omega
   .have:=Wk e d [] c a;simp at this⊢;omega
  .have:=Wk e d (b++[f]) c a;simp at this⊢;omega
theorem RQ{level:Nat}{c:List ej}(e:∀a∈c,Dq a):∀d∈nj level c,∀a∈d,Dq a:=fun d f a g=>by
 rcases Lw level c [] d f a g with b|b
 .exact e a b
 .cases b
theorem XZ{a:List ej}(c:∀b∈a,Dq b):(cz a).length<=12:=by
 unfold cz;cases d:a.getLast? with
 |none=>simp
 |some b=>simp;exact(c b (List.mem_of_getLast? d)).1
theorem YZ(f:Nat):∀(c:Nat) (g:List (List ej)),(∀d∈g,∀b∈d,Dq b)->∀b∈bq f c g,Dq b
 |_,[],_,b,a=>by cases a
 |c,d::j,e,b,a=>by
  unfold bq at a;rcases IN.1 a with rfl|a
  .exact⟨XZ (e d (by simp)),by show(Aj _).length<=12;rw[Lj];omega⟩
  .exact YZ f (c+1) j (fun i h=>e i (by simp[h])) b a
theorem Xk(b:Nat):∀(a:Nat) (c:List (List ej)),(bq b a c).length=c.length
 |_,[]=>rfl
 |a,e::d=>by unfold bq;rw[uN,uN,Xk b (a+1) d]
theorem AX(b:Nat)(c:List ej):∀(a:Nat) (d:List (List ej)),bq b a (d++[c])=bq b a d++[⟨cz c,Aj (Gj b c),a+d.length⟩]
 |a,[]=>by simp[bq]
 |a,f::e=>by
  rw[Maj];unfold bq;rw[AX b c (a+1) e,Maj,uN,show a+1+e.length=a+(e.length+1)by omega]
theorem WV(a:List ej)(b:a≠[]):cz a=(a[a.length - 1]'(by have:=Faj.2 b;omega)).key:=by
 unfold cz;rw[ebj,UM (by have:=Faj.2 b;omega)];rfl
end Go.Proofs.YtekegfbjbainhaaGreat
