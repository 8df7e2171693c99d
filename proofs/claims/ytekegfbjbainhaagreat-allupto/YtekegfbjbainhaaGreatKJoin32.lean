import Derived.Deep.RegionHeld3
import Derived.Test.YtekegfbjbainhaaGreatKJoin31
set_option maxRecDepth 100000
set_option maxHeartbeats 4000000
set_option linter.unusedVariables false
set_option linter.unusedSimpArgs false
namespace Go.Proofs.YtekegfbjbainhaaGreat
open Go
section
variable {P:Program} {ops:Array Oper} {Q:Exit->Act->World->Prop} {md:Region.Mode} {S:World->Prop} {z:Nat}
def Wv(P:Program)(md:Region.Mode)(ops:Array Oper)(Q:Exit->Act->World->Prop)(S:World->Prop)(z:Nat):Nat->Array Bool->Act->World->Prop
 |0,a,b,c=>Region.ready md ops a=[]/\Q .normal b c
 |g+1,a,b,c=>
  (Region.ready md ops a=[]->Q .normal b c)/\
  ∀d∈Region.ready md ops a,wpOp P ops Q d (fun f e=>((a.setIfInBounds d true).getD z true=false->S e)/\Wv P md ops Q S z g (a.setIfInBounds d true) f e) b c
theorem DK:∀(a:Nat) (c:Array Bool) (d:Act) (e:World),Wv P md ops Q S z a c d e->wpAny P md ops Q a c d e
 |0,_,_,_,b=>b
 |a+1,_,_,_,b=>⟨b.1,fun i h=>wpOp_mono (fun f j g=>DK a _ f j g.2) (b.2 i h)⟩
def pF(md:Region.Mode)(ops:Array Oper)(b:List Nat)(c:Nat):Bool:=
 b.all fun e=>match ops[e]? with
  |some d=>d.after.any fun a=>Region.binds md a&&(a.on==c||b.contains a.on)
  |none=>false
theorem UG{e:List Nat}{f:Nat}(x:pF md ops e f=true){b:Array Bool}(r:b.getD f true=false)(n:∀z∈e,b.getD z true=false){j:Nat}(s:j∈Region.ready md ops b):j∉e:=by
 intro t;obtain⟨-,m,v,o⟩:=mem_ready.1 s;have a:=List.all_eq_true.1 x j t;rw[v]at a;dsimp only at a;have l:∀g,b.getD g true=false->b.getD g false=true->False:=by
  intro g k a;rcases Nat.lt_or_ge g b.size with i|i
  .simp[i]at k a;rw[k]at a;cases a
  .simp[Array.getElem?_eq_none i]at a
 have:∃c∈m.after,Region.binds md c=true/\(c.on=f\/c.on∈e):=by
  simp only[Array.any_eq_true]at a;obtain⟨y,u,d⟩:=a;exact⟨m.after[y],Array.getElem_mem u,by simpa using d⟩
 obtain⟨c,q,p,w⟩:=this;have d:=o c q p;rcases w with h|h
 .rw[h]at d;exact l f r d
 .exact l _ (n _ h) d
theorem qF{c:Nat}{k:Oper}{F:Value}{o:List Nat}(B:ops[c]? =some k)(N:∀(a:Nat) (R:Oper) q p,ops[a]? =some R->R.op≠.select q p)
  (V:∀G e g,Q (.panic G) (e.put k.dst F) g->Q (.panic G) e g)(a6:pF md ops o c=true)(E:z∈o):
  ∀(r:Nat) (d:Array Bool) (e:Act) (g:World),
   (∀a l,ops[a]? =some l->a≠c->d.getD a true=false->(∀b∈l.after,Region.binds md b=true->b.on≠c)->k.apart ops l=true)->
   (∀v∈o,d.getD v true=false)->c∉o->
   c∈Region.ready md ops d->YieldsIf P ops S k F e->S g->
   Wv P md ops Q S z r (d.setIfInBounds c true) (e.put k.dst F) g->Wv P md ops Q S z (r+1) d e g:=by
 intro r
 induction r with
 |zero=>
  intro d e g _ w _ i j s n;refine⟨fun x=>(by rw[x]at i;cases i),fun a t=>?_⟩;by_cases f:a=c
  .subst f;exact j.wpOp B s ⟨fun _=>s,n⟩
  .have:=ready_mono t f;rw[n.1]at this;cases this
 |succ r a8=>
  intro d e g I w J i j s n;refine⟨fun x=>(by rw[x]at i;cases i),fun a t=>?_⟩;by_cases f:a=c
  .subst f;exact j.wpOp B s ⟨fun _=>s,n⟩
  .have C:=(mem_ready.1 i).1;have K:=UG a6 C w t;have h:=n.2 a (ready_mono t f);obtain⟨M,l,D,X⟩:=mem_ready.1 t;have a5:∀b∈l.after,Region.binds md b=true->b.on≠c:=fun b Z Y a0=>by
    have h:=X b Z Y;rw[a0]at h;rcases Nat.lt_or_ge c d.size with y|y
    .simp[y]at C h;rw[C]at h;cases h
    .simp[Array.getElem?_eq_none y]at h
   have U:=wpOp_putIf D (I a l D f M a5) (fun q p=>N c k q p B) (fun q p=>N a l q p D) V j h;have W:∀v∈o,(d.setIfInBounds a true).getD v true=false:=fun v j=>by
    rw[getD_set_ne true (fun b=>K (by rw[b];exact j))];exact w v j
   have a7:((d.setIfInBounds c true).setIfInBounds a true).getD z true=false:=by
    rw[getD_set_ne true (fun b=>K (by rw[b];exact E)),getD_set_ne true (fun b=>J (by rw[b];exact E))];exact w z E
   have a1:∀m u,ops[m]? =some u->m≠c->(d.setIfInBounds a true).getD m true=false->
     (∀b∈u.after,Region.binds md b=true->b.on≠c)->k.apart ops u=true:=fun m u a2 a3 O a4=>by
    refine I m u a2 a3 ?_ a4;by_cases L:a=m
    .subst L;exact M
    .rw[getD_set_ne true L]at O;exact O
   refine wpOp_mono (fun T a9 A=>?_) U;have H:=A.2.1 a7;refine⟨fun _=>H,a8 (d.setIfInBounds a true) T a9 a1 W J (ready_mono i (Ne.symm f)) A.1 H ?_⟩;rw[Array.setIfInBounds_comm _ _ f];exact A.2.2
theorem CJ(b:Nat)(f:Oper)(i:Value)(g:List Nat){h:Nat}{d:Array Bool}{a:Act}{c:World}(p:ops.toList[b]? =some f)
  (s:Region.noSelect ops=true)(o:Region.free md ops d b=true)(r:(Region.ready md ops d).contains b=true)
  (m:∀j a c,Q (.panic j) (a.put f.dst i) c->Q (.panic j) a c)(e:(pF md ops g b&&g.contains z&&g.all (fun u=> !(d.getD u true))&& !(g.contains b))=true)
  (n:S c)(t:YieldsIf P ops S f i a)
  (l:Wv P md ops Q S z h (d.setIfInBounds b true) (a.put f.dst i) c):Wv P md ops Q S z (h+1) d a c:=by
 have k:ops[b]? =some f:=by rw[<-vaj];exact p
 simp only[Daj,List.all_eq_true,Bool.not_eq_true',List.contains_iff_mem]at e;refine qF k (Region.noSelect_spec s) m e.1.1.1 e.1.1.2 h d a c (Region.free_spec k o) e.1.2 (fun q=>?_) (by simpa using r) t n l;have:=e.2;rw[List.contains_iff_mem.2 q]at this;cases this
theorem tF{b:Nat}{k:Oper}{B:Value}(x:ops[b]? =some k)(J:∀(a:Nat) (L:Oper) p o,ops[a]? =some L->L.op≠.select p o)
  (R:∀C f h,Q (.panic C) (f.put k.dst B) h->Q (.panic C) f h)(y:b≠z):
  ∀(q:Nat) (c:Array Bool) (f:Act) (h:World),
   (∀a l,ops[a]? =some l->a≠b->c.getD a true=false->(∀d∈l.after,Region.binds md d=true->d.on≠b)->k.apart ops l=true)->
   b∈Region.ready md ops c->YieldsIf P ops (fun _=>True) k B f->(c.getD z true=false->S h)->
   Wv P md ops Q S z q (c.setIfInBounds b true) (f.put k.dst B) h->Wv P md ops Q S z (q+1) c f h:=by
 intro q
 induction q with
 |zero=>
  intro c f h _ j t w n;refine⟨fun e=>(by rw[e]at j;cases j),fun a s=>?_⟩;by_cases g:a=b
  .subst g;exact t.wpOp x trivial ⟨fun e=>w (by rw[getD_set_ne true y]at e;exact e),n⟩
  .have:=ready_mono s g;rw[n.1]at this;cases this
 |succ q a3=>
  intro c f h F j t w n;refine⟨fun e=>(by rw[e]at j;cases j),fun a s=>?_⟩;by_cases g:a=b
  .subst g;exact t.wpOp x trivial ⟨fun e=>w (by rw[getD_set_ne true y]at e;exact e),n⟩
  .have G:=(mem_ready.1 j).1;have i:=n.2 a (ready_mono s g);obtain⟨I,l,A,T⟩:=mem_ready.1 s;have a1:∀d∈l.after,Region.binds md d=true->d.on≠b:=fun d V U W=>by
    have i:=T d V U;rw[W]at i;rcases Nat.lt_or_ge b c.size with u|u
    .simp[u]at G i;rw[G]at i;cases i
    .simp[Array.getElem?_eq_none u]at i
   have O:=wpOp_putIf A (F a l A g I a1) (fun p o=>J b k p o x) (fun p o=>J a l p o A) R t i;have X:∀m r,ops[m]? =some r->m≠b->(c.setIfInBounds a true).getD m true=false->
     (∀d∈r.after,Region.binds md d=true->d.on≠b)->k.apart ops r=true:=fun m r Y Z K a0=>by
    refine F m r Y Z ?_ a0;by_cases H:a=m
    .subst H;exact I
    .rw[getD_set_ne true H]at K;exact K
   have E:(c.setIfInBounds b true).setIfInBounds a true=(c.setIfInBounds a true).setIfInBounds b true:=Array.setIfInBounds_comm _ _ (Ne.symm g);refine wpOp_mono (fun N M v=>?_) O;have D:(c.setIfInBounds a true).getD z true=false->S M:=fun a2=>v.2.1 (by rw[E,getD_set_ne true y];exact a2);refine⟨D,a3 (c.setIfInBounds a true) N M X (ready_mono j (Ne.symm g)) v.1 D ?_⟩;rw[<-E];exact v.2.2
theorem VG(c:Nat)(e:Oper)(g:Value){f:Nat}{d:Array Bool}{a:Act}{b:World}(n:ops.toList[c]? =some e)
  (q:Region.noSelect ops=true)(m:Region.free md ops d c=true)(p:(Region.ready md ops d).contains c=true)
  (k:∀h a b,Q (.panic h) (a.put e.dst g) b->Q (.panic h) a b)(o:c≠z)
  (l:S b)(r:YieldsIf P ops (fun _=>True) e g a)
  (j:Wv P md ops Q S z f (d.setIfInBounds c true) (a.put e.dst g) b):Wv P md ops Q S z (f+1) d a b:=
 have i:ops[c]? =some e:=by rw[<-vaj];exact n
 tF i (Region.noSelect_spec q) k o f d a b (Region.free_spec i m) (by simpa using p) r (fun _=>l) j
theorem EK(f:Nat)(d:Oper){g:Nat}{e:Array Bool}{a:Act}{b:World}(i:Region.ready md ops e=[f])(o:ops.toList[f]? =some d)
  (j:∀c:Act->World->Prop,Shut (∀a b,S b->Wv P md ops Q S z g (e.setIfInBounds f true) a b->c a b)->if Region.wanted d (yielded ops a.tmps)=true then Oper.wp P d a b c Q else c (a.put d.dst undef) b):
  Wv P md ops Q S z (g+1) e a b:=
 ⟨fun h=>(by rw[i]at h;cases h),by
  rw[i];intro p n;obtain rfl:=eN.1 n;exact wpOp_step (by rw[<-vaj];exact o) (fun c k=>j c (fun a b l m=>k a b ⟨fun _=>l,m⟩))⟩
theorem oZ(f:Nat)(g:Oper){h:Nat}{e:Array Bool}{a:Act}{b:World}(i:Region.ready md ops e=[f])(n:ops.toList[f]? =some g)(o:(e.setIfInBounds f true).getD z true=true)
  (j:∀c:Act->World->Prop,Shut (∀a b,Wv P md ops Q S z h (e.setIfInBounds f true) a b->c a b)->if Region.wanted g (yielded ops a.tmps)=true then Oper.wp P g a b c Q else c (a.put g.dst undef) b):
  Wv P md ops Q S z (h+1) e a b:=
 ⟨fun d=>(by rw[i]at d;cases d),by
  rw[i];intro p m;obtain rfl:=eN.1 m;exact wpOp_step (by rw[<-vaj];exact n) (fun c k=>j c (fun a b l=>k a b ⟨fun d=>(by rw[o]at d;cases d),l⟩))⟩
theorem WG{a:Array Bool}{b:Act}{e:World}(d:Region.ready md ops a=[])(c:Q .normal b e):
  ∀f,Wv P md ops Q S z f a b e
 |0=>⟨d,c⟩
 |_+1=>⟨fun _=>c,by rw[d];simp⟩
theorem tL{id:Nat}{b:Act}{a:World}(S:World->Prop)(z:Nat)(e:P.follows .mixedOrders=true)(d:S a.drew)
  (c:S a.drew->Wv P .any ops Q S z ops.size (Array.replicate ops.size false) b a.drew):(Code.region id ops true).wp P Q b a:=
 wp_region_any e (DK _ _ _ _ (c d))
end
end Go.Proofs.YtekegfbjbainhaaGreat
namespace Go.Proofs.YtekegfbjbainhaaGreat
open Go.RowKit
attribute [local go_sem↓] Go.wp_at_zero Go.wp_at_succ
theorem jV{h:Oper}{c:Act}{d:World}{k:Act->World->Prop}{Q:Exit->Act->World->Prop}(i j:Operand)(p:h.op=.store 36 i j)
  (a:Nat)(q:c.eval i=.pointer (some ⟨a,0,none⟩))(b:List UInt8)(f:b.length=8)(r:c.eval j=dV b){n:List Value}(l:aj d a 36 n)(m:n.length=8)
  (o:∀e,aj e a 36 (b.map fj)->bj (fun g=>g=a) d e->e.heap.size=d.heap.size->k (c.put h.dst undef) e):h.wp Tryz.prog c d k Q:=by
 refine wp_store_mid 36 i j p a 0 (b.map fj).toArray q r (by simpa[f]using l.there 8 m.symm) (by simpa[f]using Tryz.infoDig) (all_oneCell_toArray (gx b)) ?_;exact o _ (l.setAll _ (by simp[f,m])) (bj.setCells (S:=fun g=>g=a) rfl _ _ _ (bj.refl _ _)) (Cx _ _ _ _)
theorem qM(b C q c e:Nat)(b9:Option Addr)(P:List UInt8)(Q:Option (List UInt8×List UInt8))(G:Nat)(a:World)(aS:P.length=8)(u:c<a.heap.size)(bv:b+1<=G)(bn:G<=9223372036854775807)(s:a.rangeAt c (e+b*8) (P.map fj))(bC:1<=C)(bO:C<q)(aR:q<=9223372036854775807)(U:gj q<C)
  (ak:∀B,BB a B->CP 136 #[.int .i64 ((C - gj q:Nat):Int),.int .i64 ((q - gj q:Nat):Int),.pointer none,.slice (some ⟨c,e,none⟩) b G] B fun N O=>Gw Q N/\Below B.heap.size B O):
  CP 136 #[.int .i64 C,.int .i64 q,.pointer b9,.slice (some ⟨c,e,none⟩) (b+1) G] a fun N O=>Gw (Q.map (fun H=>(Aj (1::(P++H.1)),Aj (1::(P++H.2))))) N/\Below a.heap.size a O:=by
 obtain⟨f,g,h,i,l,m,n,o,rfl⟩:=uj P aS;have x:Below a.heap.size a ((a.alloc (.cells zO 36)).alloc (.cells zO 36)):=tO.alloc (by simp) _;have F:Below a.heap.size a (((a.alloc (.cells zO 36)).alloc (.cells zO 36)).alloc (.cells zO 36)):=x.alloc x.size _;have bb:((a.alloc (.cells zO 36)).alloc (.cells zO 36)).cell? ⟨c,e+b*8,none⟩=some (.int .u8 f.toNat):=by rw[x.cell (p:=⟨c,e+b*8,none⟩) u];exact s 0 _ rfl
 have b1:(((a.alloc (.cells zO 36)).alloc (.cells zO 36)).alloc (.cells zO 36)).cell? ⟨c,e+b*8,none⟩=some (.int .u8 f.toNat):=by rw[F.cell (p:=⟨c,e+b*8,none⟩) u];exact s 0 _ rfl
 have bc:((a.alloc (.cells zO 36)).alloc (.cells zO 36)).cell? ⟨c,e+b*8+1,none⟩=some (.int .u8 g.toNat):=by rw[x.cell (p:=⟨c,e+b*8+1,none⟩) u];exact s 1 _ rfl
 have b2:(((a.alloc (.cells zO 36)).alloc (.cells zO 36)).alloc (.cells zO 36)).cell? ⟨c,e+b*8+1,none⟩=some (.int .u8 g.toNat):=by rw[F.cell (p:=⟨c,e+b*8+1,none⟩) u];exact s 1 _ rfl
 have bd:((a.alloc (.cells zO 36)).alloc (.cells zO 36)).cell? ⟨c,e+b*8+2,none⟩=some (.int .u8 h.toNat):=by rw[x.cell (p:=⟨c,e+b*8+2,none⟩) u];exact s 2 _ rfl
 have b3:(((a.alloc (.cells zO 36)).alloc (.cells zO 36)).alloc (.cells zO 36)).cell? ⟨c,e+b*8+2,none⟩=some (.int .u8 h.toNat):=by rw[F.cell (p:=⟨c,e+b*8+2,none⟩) u];exact s 2 _ rfl
 have be:((a.alloc (.cells zO 36)).alloc (.cells zO 36)).cell? ⟨c,e+b*8+3,none⟩=some (.int .u8 i.toNat):=by rw[x.cell (p:=⟨c,e+b*8+3,none⟩) u];exact s 3 _ rfl
 have b4:(((a.alloc (.cells zO 36)).alloc (.cells zO 36)).alloc (.cells zO 36)).cell? ⟨c,e+b*8+3,none⟩=some (.int .u8 i.toNat):=by rw[F.cell (p:=⟨c,e+b*8+3,none⟩) u];exact s 3 _ rfl
 have bf:((a.alloc (.cells zO 36)).alloc (.cells zO 36)).cell? ⟨c,e+b*8+4,none⟩=some (.int .u8 l.toNat):=by rw[x.cell (p:=⟨c,e+b*8+4,none⟩) u];exact s 4 _ rfl
 have b5:(((a.alloc (.cells zO 36)).alloc (.cells zO 36)).alloc (.cells zO 36)).cell? ⟨c,e+b*8+4,none⟩=some (.int .u8 l.toNat):=by rw[F.cell (p:=⟨c,e+b*8+4,none⟩) u];exact s 4 _ rfl
 have bg:((a.alloc (.cells zO 36)).alloc (.cells zO 36)).cell? ⟨c,e+b*8+5,none⟩=some (.int .u8 m.toNat):=by rw[x.cell (p:=⟨c,e+b*8+5,none⟩) u];exact s 5 _ rfl
 have b6:(((a.alloc (.cells zO 36)).alloc (.cells zO 36)).alloc (.cells zO 36)).cell? ⟨c,e+b*8+5,none⟩=some (.int .u8 m.toNat):=by rw[F.cell (p:=⟨c,e+b*8+5,none⟩) u];exact s 5 _ rfl
 have bh:((a.alloc (.cells zO 36)).alloc (.cells zO 36)).cell? ⟨c,e+b*8+6,none⟩=some (.int .u8 n.toNat):=by rw[x.cell (p:=⟨c,e+b*8+6,none⟩) u];exact s 6 _ rfl
 have b7:(((a.alloc (.cells zO 36)).alloc (.cells zO 36)).alloc (.cells zO 36)).cell? ⟨c,e+b*8+6,none⟩=some (.int .u8 n.toNat):=by rw[F.cell (p:=⟨c,e+b*8+6,none⟩) u];exact s 6 _ rfl
 have bi:((a.alloc (.cells zO 36)).alloc (.cells zO 36)).cell? ⟨c,e+b*8+7,none⟩=some (.int .u8 o.toNat):=by rw[x.cell (p:=⟨c,e+b*8+7,none⟩) u];exact s 7 _ rfl
 have b8:(((a.alloc (.cells zO 36)).alloc (.cells zO 36)).alloc (.cells zO 36)).cell? ⟨c,e+b*8+7,none⟩=some (.int .u8 o.toNat):=by rw[F.cell (p:=⟨c,e+b*8+7,none⟩) u];exact s 7 _ rfl
 have bD:((b+1:Nat):Int) - 1=(b:Int):=by omega
 have bB:(((b+1:Nat):Int)==0)=false:=by rw[tN];simp only[ne_eq,beq_iff_eq];omega
 have bR:((b+1:Nat):Int)=(b:Int)+1:=by omega
 have bo:(G:Int)<=9223372036854775807:=by omega
 have bA:(b:Int)<G:=by omega
 have bw:(b:Int)<=9223372036854775807:=by omega
 have bu:¬G=b:=by omega
 have c0:IntKind.i64.wrap (b:Int)=(b:Int):=Go.IntWalk.i64_in _ ⟨by omega,by omega⟩;clear s;have a0:Hd (BB a (((a.alloc (.cells zO 36)).alloc (.cells zO 36)).alloc (.cells (cO f g h i l m n o) 36)).drew):=(x.alloc x.size _).drew;have an:aj (((a.alloc (.cells zO 36)).alloc (.cells zO 36)).alloc (.cells (cO f g h i l m n o) 36)) a.heap.size 36 z8:=((aj.new_at _ 36 a.heap.size z8 rfl).alloc _).alloc _;have ao:aj (((a.alloc (.cells zO 36)).alloc (.cells zO 36)).alloc (.cells (cO f g h i l m n o) 36)) (a.heap.size+1) 36 z8:=(aj.new_at _ 36 (a.heap.size+1) z8 (by simp)).alloc _;have am:aj (((a.alloc (.cells zO 36)).alloc (.cells zO 36)).alloc (.cells (cO f g h i l m n o) 36)) (a.heap.size+1+1) 36 ([f,g,h,i,l,m,n,o].map fj):=aj.new_at _ 36 (a.heap.size+1+1) ([f,g,h,i,l,m,n,o].map fj) (by simp);have au:Hd (∀a:World,CP 128 #[.int .i64 q] a fun E O=>E=.returned (.int .i64 (gj q:Int))/\O=a):=fun a=>Py q a (by omega) aR;have bp:=Rq q (by omega);have av:Hd (∀B,BB a B->Calls _ _ _ B _):=ak;clear ak;generalize gj q=A at*;have bE:((C:Int)==(q:Int))=false:=by rw[tN];simp only[ne_eq,beq_iff_eq];omega
 have bS:(q:Int)<=9223372036854775807:=by omega
 have bP:(C:Int)<q:=by omega
 have br:(1:Int)<=A:=by omega
 have bs:¬(C:Int)<=A:=by omega
 have bI:(C:Int) - A=((C - A:Nat):Int):=by omega
 have bT:(q:Int) - A=((q - A:Nat):Int):=by omega
 generalize (C - A:Nat)=mk at*;generalize (q - A:Nat)=c3 at*;go_enter Tryz.func136,Tryz.ntmps136;go_wp2
 go_region
 go_wp2_with fail;refine(au.o _).mono ?_;rintro N c4 ⟨rfl,rfl⟩;go_wp2_with fail;refine(av.o _ (by exact a0.o)).mono ?_;rintro N V ⟨⟨w,y,I,M,rfl,al⟩,K⟩;have a9:Hd (BB a V):=a0.o.trans (K.mono a0.o.size);have ah:aj V a.heap.size 36 z8:=aj.past K (by exact an);have a3:aj V (a.heap.size+1) 36 z8:=aj.past K (by exact ao);have R:aj V (a.heap.size+1+1) 36 ([f,g,h,i,l,m,n,o].map fj):=aj.past K (by exact am);have aP:=R.lt;clear K an ao am x F bb b1 bc b2 bd b3 be b4 bf b5 bg b6 bh b7 bi b8;go_wp2_with (first
  |(refine iq (by rfl) (.tmp 8) (.tmp 82) (by rfl) a.heap.size (by rfl) w I (by rfl) ah (by rfl) ?_;intro a6 Z S aT;have a8:aj a6 (a.heap.size+1) 36 z8:=a3.of_block (S.block _ a3.lt (fun E=>by omega));have Y:aj a6 (a.heap.size+1+1) 36 ([f,g,h,i,l,m,n,o].map fj):=R.of_block (S.block _ R.lt (fun E=>by omega));have aa:Hd (BB a a6):=a9.o.trans (S.below a9.o.size (fun A U=>by omega)))
  |(refine iq (by rfl) (.tmp 9) (.tmp 83) (by rfl) (a.heap.size+1) (by rfl) y M (by rfl) a8 (by rfl) ?_;intro a7 aD T b0;have aC:aj a7 a.heap.size 36 (w.map fj):=Z.of_block (T.block _ Z.lt (fun E=>by omega));have aB:aj a7 (a.heap.size+1+1) 36 ([f,g,h,i,l,m,n,o].map fj):=Y.of_block (T.block _ Y.lt (fun E=>by omega));have ab:Hd (BB a a7):=aa.o.trans (T.below aa.o.size (fun A U=>by omega))))
 clear ah a3 R Z a8 Y S T aT b0 aP;have ax:Hd (∀H,Q=some H->H=(w,y)):=al;have bm:Hd (a.heap.size≠(a.heap.size+1)):=by unfold Hd;omega
 clear al;refine tL (fun a4=>aj a4 (a.heap.size+1+1) 36 ([f,g,h,i,l,m,n,o].map fj)/\aj a4 a.heap.size 36 (w.map fj)/\aj a4 (a.heap.size+1) 36 (y.map fj)) 7 (by kernel_rfl) ⟨aB.of_block rfl,aC.of_block rfl,aD.of_block rfl⟩ (fun z=>?_);refine CJ 0 _ (dV [f,g,h,i,l,m,n,o]) [2,7] rfl (by kernel_rfl) (by kernel_rfl) (by kernel_rfl) (fun _ _ _ r=>r) (by kernel_rfl) z (yieldsIf_load_mid (by rfl) _ _ rfl (a.heap.size+1+1) 0 rfl ([f,g,h,i,l,m,n,o].map fj) _ (fun B r=>r.1.range) Tryz.underlying36 rfl (by simpa[FN]using Tryz.infoDig)) ?_
 try simp only[Act.put,saj,gaj,taj]
 refine CJ 1 _ (dV w) [2,7] rfl (by kernel_rfl) (by kernel_rfl) (by kernel_rfl) (fun _ _ _ r=>r) (by kernel_rfl) z (yieldsIf_load_mid (by rfl) _ _ rfl a.heap.size 0 rfl (w.map fj) _ (fun B r=>r.2.1.range) Tryz.underlying36 rfl (by simpa[I]using Tryz.infoDig)) ?_
 try simp only[Act.put,saj,gaj,taj]
 refine CJ 3 _ (dV [f,g,h,i,l,m,n,o]) [5,7] rfl (by kernel_rfl) (by kernel_rfl) (by kernel_rfl) (fun _ _ _ r=>r) (by kernel_rfl) z (yieldsIf_load_mid (by rfl) _ _ rfl (a.heap.size+1+1) 0 rfl ([f,g,h,i,l,m,n,o].map fj) _ (fun B r=>r.1.range) Tryz.underlying36 rfl (by simpa[FN]using Tryz.infoDig)) ?_
 try simp only[Act.put,saj,gaj,taj]
 refine CJ 4 _ (dV y) [5,7] rfl (by kernel_rfl) (by kernel_rfl) (by kernel_rfl) (fun _ _ _ r=>r) (by kernel_rfl) z (yieldsIf_load_mid (by rfl) _ _ rfl (a.heap.size+1) 0 rfl (y.map fj) _ (fun B r=>r.2.2.range) Tryz.underlying36 rfl (by simpa[M]using Tryz.infoDig)) ?_
 try simp only[Act.put,saj,gaj,taj]
 refine VG 6 _ _ rfl (by kernel_rfl) (by kernel_rfl) (by kernel_rfl) (fun _ _ _ r=>r) (by decide) z (SM ⟨by rfl,fun a _=>by rfl⟩) ?_
 try simp only[Act.put,saj,gaj,taj]
 refine EK 2 _ (by kernel_rfl) rfl (fun D v=>?_);rw[if_pos (by rfl)];go_simp;refine(Uy [f,g,h,i,l,m,n,o] w _ rfl I).mono ?_;rintro E W ⟨rfl,J⟩;have ad:aj W (a.heap.size+1+1) 36 ([f,g,h,i,l,m,n,o].map fj):=aj.past J (by exact z.1);have ae:aj W a.heap.size 36 (w.map fj):=aj.past J (by exact z.2.1);have af:aj W (a.heap.size+1) 36 (y.map fj):=aj.past J (by exact z.2.2);have ac:Hd (BB a W):=ab.o.trans (by have t:=J.mono ab.o.size;exact⟨t.os,t.tape,t.output,t.size,t.block⟩);clear J;refine v.out _ _ ⟨ad,ae,af⟩ ?_;clear v D
 try simp only[Act.put,saj,gaj,taj]
 have z:_/\_/\_:=⟨ad,ae,af⟩;refine EK 5 _ (by kernel_rfl) rfl (fun D v=>?_);rw[if_pos (by rfl)];go_simp;refine(Uy [f,g,h,i,l,m,n,o] y _ rfl M).mono ?_;rintro E X ⟨rfl,L⟩;have aA:aj X (a.heap.size+1+1) 36 ([f,g,h,i,l,m,n,o].map fj):=aj.past L (by exact z.1);have ag:aj X a.heap.size 36 (w.map fj):=aj.past L (by exact z.2.1);have a2:aj X (a.heap.size+1) 36 (y.map fj):=aj.past L (by exact z.2.2);have a1:Hd (BB a X):=ac.o.trans (by have t:=L.mono ac.o.size;exact⟨t.os,t.tape,t.output,t.size,t.block⟩);clear L;refine v.out _ _ ⟨aA,ag,a2⟩ ?_;clear v D
 try simp only[Act.put,saj,gaj,taj]
 refine oZ 7 _ (by kernel_rfl) rfl (by kernel_rfl) (fun D v=>?_);rw[if_pos (by rfl)];refine jV (.tmp 8) (.tmp 87) (by rfl) a.heap.size (by rfl) (Aj (1::([f,g,h,i,l,m,n,o]++w))) (Lj _) (by rfl) ag (by simp[I,M]) ?_;intro bk ai ap c1;refine v.out _ _ ?_;clear v D
 try simp only[Act.put,saj,gaj,taj]
 have aO:aj bk (a.heap.size+1) 36 (y.map fj):=a2.of_block (ap.block _ a2.lt (fun E=>by omega));refine oZ 8 _ (by kernel_rfl) rfl (by kernel_rfl) (fun D v=>?_);rw[if_pos (by rfl)];refine jV (.tmp 9) (.tmp 90) (by rfl) (a.heap.size+1) (by rfl) (Aj (1::([f,g,h,i,l,m,n,o]++y))) (Lj _) (by rfl) aO (by simp[I,M]) ?_;intro bl aE ar c2;refine v.out _ _ ?_;clear v D
 try simp only[Act.put,saj,gaj,taj]
 have aI:aj bl a.heap.size 36 ((Aj (1::([f,g,h,i,l,m,n,o]++w))).map fj):=ai.of_block (ar.block _ ai.lt (fun E=>by omega));refine oZ 9 _ (by kernel_rfl) rfl (by kernel_rfl) (fun D v=>?_);rw[if_pos (by rfl)];go_simp;refine v.out _ _ ?_;clear v D
 try simp only[Act.put,saj,gaj,taj]
 refine WG (by kernel_rfl) ?_ _;go_wp2;refine Rv (k:=8) (k':=9) (j:=10) (d:=Aj (1::([f,g,h,i,l,m,n,o]++w))) (d':=Aj (1::([f,g,h,i,l,m,n,o]++y))) rfl rfl rfl aI (Lj _) aE (Lj _) rfl rfl ⟨⟨Aj (1::([f,g,h,i,l,m,n,o]++w)),Aj (1::([f,g,h,i,l,m,n,o]++y)),Lj _,Lj _,?_,?_⟩,?_⟩
 .rw[Option.isSome_map];rfl
 .intro H t;cases a5:Q with
  |none=>rw[a5]at t;cases t
  |some ba=>
   rw[a5]at t;have:=ax.o ba a5;subst this;simp only[GN,yN]at t;exact t.symm
 .exact(a1.o.trans (ap.below a1.o.size (fun A U=>by omega))).trans (ar.below (by have:=a1.o.size;omega) (fun A U=>by omega))
end Go.Proofs.YtekegfbjbainhaaGreat
