import Derived.Test.YtekegfbjbainhaaGreatKJoin17
import Derived.Test.YtekegfbjbainhaaGreatKJoin13
import Derived.BigQuiet
import Derived.Deep.RegionHeld3
import Derived.Deep.DeepCutAuto
set_option maxRecDepth 100000
set_option maxHeartbeats 4000000
set_option linter.unusedVariables false
set_option linter.unusedSimpArgs false
namespace Go.Proofs.YtekegfbjbainhaaGreat
open Go.RowKit
section
def oq(b:Nat):Option (List UInt8)->List UInt8
 |some a=>if b<=a.length then a.take b else[]
 |none=>[]
def mj(b:Nat):Option (List UInt8)->Option (List UInt8)
 |some a=>if b<=a.length then some (a.drop b)else none
 |none=>none
def Fj:Option (List UInt8)->Nat
 |some (a::_)=>a.toNat
 |_=>0
theorem nJ(a:Nat)(c:Option (List UInt8)):(oq a c).length<=a:=by
 cases c with
 |none=>simp[oq]
 |some b=>
  show(if a<=b.length then b.take a else[]).length<=a
  split
  .rw[aN];omega
  .simp
theorem zy(a:Option (List UInt8)):Fj a<256:=by
 unfold Fj;split
 .exact UInt8.toNat_lt _
 .omega
structure Cq(w:World)(K:Nat->Prop)(s:dj)(l:List UInt8):Prop where
 bs:BS w s l
 cap:s.n<=s.cap
 k:∀x,s.a=some x->K x.block
theorem Cq.nil(c:World)(b:Nat->Prop):Cq c b ⟨none,0,0⟩ []:=⟨⟨fun e a=>absurd a (wN _),rfl,fun _=>rfl,fun d a=>(by cases a)⟩,TM _,fun d a=>(by cases a)⟩
theorem Cq.frame{f g:World}{S b:Nat->Prop}{e:dj}{d:List UInt8}(a:Cq f b e d)(i:bj S f g)(h:∀c,b c->¬S c):Cq g b e d:=⟨a.bs.frame i (fun k j=>h _ (a.k k j)),a.cap,a.k⟩
theorem Cq.below{w w':World}{b:Nat->Prop}{d:dj}{c:List UInt8}(a:Cq w b d c)(e:Below w.heap.size w w'):Cq w' b d c:=⟨a.bs.below e,a.cap,a.k⟩
theorem Cq.take{g:World}{e:Nat->Prop}{d:dj}{b:List UInt8}(a:Cq g e d b)(c:Nat)(q:c<=b.length):Cq g e ⟨d.a,c,d.cap⟩ (b.take c):=by
 have o:=a.bs.n;have p:=a.cap;refine⟨⟨fun f l=>?_,by simp;omega,a.bs.nil,a.bs.lt⟩,by show c<=d.cap;omega,a.k⟩;have m:f<b.length:=by rw[aN]at l;omega
 obtain⟨h,n,i,j,k⟩:=a.bs.sl f m;exact⟨h,n,i,j,by rw[k];simp⟩
theorem Cq.drop{j:World}{i:Nat->Prop}{b:dj}{e:List UInt8}(c:Cq j i b e)(a:Nat)(w:a<=e.length):Cq j i ⟨Fz b.a b.cap a 1,b.n - a,b.cap - a⟩ (e.drop a):=by
 have s:=c.bs.n;have t:=c.cap;refine⟨⟨fun p u=>?_,by show b.n - a=_;rw[oN];omega,fun d=>?_,fun r f=>?_⟩,by show b.n - a<=b.cap - a;omega,fun r f=>?_⟩
 .have v:(e.drop a).length=e.length - a:=oN;obtain⟨k,q,l,m,n⟩:=c.bs.sl (a+p) (by omega);have o:¬b.cap=a:=by omega
  refine⟨k,q+a,?_,m,?_⟩
  .show Fz b.a b.cap a 1=_;unfold Fz;rw[if_neg o,l];simp[Addr.add_mid]
  .rw[paj,n];simp
 .have:=c.bs.nil (Mw d);show b.cap - a=0;omega
 .obtain⟨h,g,d⟩:=GX f;rw[<-d];exact c.bs.lt h g
 .obtain⟨h,g,d⟩:=GX f;rw[<-d];exact c.k h g
structure NJ(w:World)(K:Nat->Prop)(rb:Nat)(s:dj)(l:List UInt8)(bad:Bool):Prop where
 row:aj w rb 77 [s.val,.bool bad]
 sub:Cq w K s l
 o:¬K rb
def rz(g:World)(c:Nat->Prop)(e:Nat)(d:Option (List UInt8)):Prop:=∃f b a,NJ g c e f b a/\d=if a then none else some b
theorem rz.lt{c:World}{d:Nat->Prop}{b:Nat}{e:Option (List UInt8)}(a:rz c d b e):b<c.heap.size:=by
 obtain⟨h,g,f,a,_⟩:=a;exact aj.lt a.row
theorem rz.frame{g h:World}{S b:Nat->Prop}{c:Nat}{f:Option (List UInt8)}(a:rz g b c f)(d:bj S g h)(k:¬S c)(l:∀e,b e->¬S e):rz h b c f:=by
 obtain⟨n,m,i,a,j⟩:=a;exact⟨n,m,i,⟨aj.of_block a.row (d.block _ (aj.lt a.row) k),a.sub.frame d l,a.o⟩,j⟩
theorem rz.below{w w':World}{b:Nat->Prop}{d:Nat}{c:Option (List UInt8)}(e:rz w b d c)(f:Below w.heap.size w w'):rz w' b d c:=e.frame (bj.of_below_all (S:=fun _=>False) f) (fun a=>a) (fun _ _ a=>a)
theorem NJ.put{e:World}{c:Nat->Prop}{a:Nat}{m b:dj}{l h:List UInt8}{f:Bool}(d:NJ e c a m l f)(j:Cq e c b h):NJ (e.setCell ⟨a,0,none⟩ b.val) c a b h f:=
 ⟨by simpa using aj.set d.row 0 b.val,j.frame ((bj.refl (fun g=>g=a) _).setCell (p:=⟨a,0,none⟩) rfl _) (fun g k i=>d.o (i▸k)),d.o⟩
theorem NJ.bad{g:World}{c:Nat->Prop}{a:Nat}{f:dj}{e:List UInt8}{h:Bool}(b:NJ g c a f e h):NJ (g.setCell ⟨a,1,none⟩ (.bool true)) c a f e true:=
 ⟨by simpa using aj.set b.row 1 (.bool true),b.sub.frame ((bj.refl (fun d=>d=a) _).setCell (p:=⟨a,1,none⟩) rfl _) (fun d j i=>b.o (i▸j)),b.o⟩
theorem vW{a:Program}{w:World}(i c:TypeId)(e:Option Addr)(n b d h:Nat)(m:a.underlying i=some (.slice c))(g:(a.info? c).map (·.size)=some h)(k:d<=b):
  (Instr.slice i (.slice e n b) none (some (.int .i64 d)) none).run a w=.ok (.slice e d b) w:=by
 have j:(d:Int)<=b:=by omega
 have l:(Go.sizeOf c).run a w=.ok h w:=by
  cases f:a.info? c with
  |none=>simp[f]at g
  |some o=>simp[f]at g;simp[sizeOf,typeInfo,f,g]
 cases e<;>simp[Instr.slice,run_underlying m,Instr.sliceBounds,Instr.sliceBound,asIntOf,j,k,Result.andThen,l,Addr.add]
theorem TU{a:Program}{m:Array Oper}{rest:List Oper}{e:Oper}{b:Act}{i:World}{j:Exit->Act->World->Prop}(r:e.guard=none)(h g:TypeId)(o k:Operand)(u:e.op=.slice h o none (some k) none)
  (f:Option Addr)(l c d n:Nat)(y:b.eval o=.slice f l c)(s:b.eval k=.int .i64 d)(x:a.underlying h=some (.slice g))(v:(a.info? g).map (·.size)=some n)(t:d<=c)
  (p:wpList a m j rest (b.put e.dst (.slice f d c)) i):wpList a m j (e::rest) b i:=by
 refine wpList_plain r fun z q=>?_;have A:=vW (w:=i) h g f l c d n x v t;unfold Oper.wp execOp;simp only[u,Option.map,y,s];go_simp;exact q _ _ p
theorem yQ(a:UInt8):wrap64 ((a.toNat:Nat):Int)=((a.toNat:Nat):Int):=by
 have:=a.toNat_lt;have b:=qaj ((a.toNat:Nat):Int);unfold wrap64;omega
theorem nQ(m:Nat->Prop)(c b:Nat)(k:Option (List UInt8))(e:World)(d:rz e m c k):
  CP 65 #[.pointer (some ⟨c,0,none⟩),.int .i64 b] e fun h o=>∃w:dj,h=.returned w.val/\bj (fun g=>g=c) e o/\o.heap.size=e.heap.size/\Cq o m w (oq b k)/\rz o m c (mj b k):=by
 obtain⟨a,f,j,d,v⟩:=d;have l:Hd (k=if j then none else some f):=v;clear v;have H:e.cell? ⟨c,0,none⟩=some (.slice a.a a.n a.cap):=aj.cell d.row 0 (by simp);have I:e.cell? ⟨c,1,none⟩=some (.bool j):=aj.cell d.row 1 (by simp);have i:Hd (NJ e m c a f j):=d;have q:Hd (a.n=f.length):=d.sub.bs.n;have s:Hd (a.n<=a.cap):=d.sub.cap;have t:Hd ((Tryz.prog.info? 5).map (·.size)=some 1):=by unfold Hd;kernel_rfl
 have G:c<e.heap.size:=aj.lt d.row;have D:=d.row.frozen 0;have E:=d.row.frozen 1;clear d;by_cases F:a.n<b
 .have B:(a.n:Int)<b:=by omega
  have r:=i.o.bad;have x:Hd (NJ (e.setCell ⟨c,1,none⟩ (.bool true)) m c a f true):=r;have J:(e.setCell ⟨c,1,none⟩ (.bool true)).cell? ⟨c,1,none⟩=some (.bool true):=aj.cell r.row 1 (by simp);clear r;go_enter Tryz.func65,Tryz.ntmps65;go_wp2;go_ret;refine⟨⟨none,0,0⟩,rfl,(bj.refl (fun g=>g=c) _).setCell (p:=⟨c,1,none⟩) rfl _,by simp,?_,a,f,true,x.o,?_⟩
  .have h:oq b k=[]:=by
    rw[l.o];cases j
    .simp only[Uaj,if_false,oq];rw[if_neg (by have:=q.o;omega)]
    .rfl
   rw[h];exact Cq.nil _ _
  .rw[l.o];cases j
   .simp only[Uaj,if_false,mj,if_true];rw[if_neg (by have:=q.o;omega)]
   .rfl
 .have B:¬(a.n:Int)<b:=by omega
  cases j with
  |true=>
   go_enter Tryz.func65,Tryz.ntmps65;go_wp2;go_ret;rw[l.o];exact⟨⟨none,0,0⟩,rfl,bj.refl _ _,rfl,Cq.nil _ _,a,f,true,i.o,rfl⟩
  |false=>
   have u:b<=f.length:=by have:=q.o;omega
   have A:b<=a.n:=by omega
   have y:b<=a.cap:=by have:=s.o;omega
   have n:Hd (b<=f.length):=u;clear u;go_enter Tryz.func65,Tryz.ntmps65;go_wp2_with (first
    |(refine TU (by rfl) 38 5 _ _ (by rfl) a.a a.n a.cap b 1 (by rfl) (by rfl) Tryz.underlying38 t.o y ?_)
    |(refine dw (by rfl) 38 5 _ _ (by rfl) a.a a.n a.cap b 1 (by rfl) (by rfl) Tryz.underlying38 t.o A s.o ?_))
   go_ret;have C:=i.o.put (i.o.sub.drop b n.o);refine⟨⟨a.a,b,a.cap⟩,rfl,(bj.refl (fun g=>g=c) _).setCell (p:=⟨c,0,none⟩) rfl _,by simp,?_,_,_,false,C,?_⟩
   .have h:oq b k=f.take b:=by
     rw[l.o];simp only[Uaj,if_false,oq];rw[if_pos n.o]
    rw[h];exact(i.o.sub.take b n.o).frame ((bj.refl (fun g=>g=c) _).setCell (p:=⟨c,0,none⟩) rfl _) (fun g z h=>i.o.o (h▸z))
   .rw[l.o];simp only[Uaj,if_false,mj];rw[if_pos n.o]
theorem fJ(f:Nat->Prop)(c:Nat)(a:Option (List UInt8))(d:World)(r:rz d f c a):
  CP 64 #[.pointer (some ⟨c,0,none⟩)] d fun q l=>q=.returned (.int .i64 (Fj a:Int))/\bj (fun j=>j=c) d l/\l.heap.size=d.heap.size/\rz l f c (mj 1 a):=by
 have C:Hd (Calls _ _ _ _ _):=nQ f c 1 a d r;go_enter Tryz.func64,Tryz.ntmps64;go_wp2_with fail;refine C.o.mono ?_;rintro q m ⟨B,rfl,w,A,e,z⟩;have o:Hd (rz m f c (mj 1 a)):=z;have n:Hd (bj (fun j=>j=c) d m):=w;have p:Hd (m.heap.size=d.heap.size):=A;clear z w A r;unfold dj.val;cases b:oq 1 a with
 |nil=>
  have x:B.n=0:=by have:=e.bs.n;rw[b]at this;exact this
  have h:Hd (Fj a=0):=by
   unfold Hd;cases a with
   |none=>rfl
   |some k=>
    cases k with
    |nil=>rfl
    |cons g D=>simp[oq]at b
  rw[x];clear b e x;go_wp2;go_ret;exact⟨by rw[h.o];rfl,n.o,p.o,o.o⟩
 |cons g D=>
  rw[b]at e;have i:oq 1 a=[g]/\Fj a=g.toNat:=by
   cases a with
   |none=>simp[oq]at b
   |some k=>
    cases k with
    |nil=>simp[oq]at b
    |cons I H=>
     simp[oq]at b;exact⟨by simp[oq,b.1],by simp[Fj,b.1]⟩
  have y:B.n=1:=by
   have s:=e.bs.n;have t:=i.1;rw[b]at t;rw[t]at s;exact s
  obtain⟨E,G,u,F,v⟩:=e.bs.sl 0 (by simp);rw[eaj]at v;simp only[cN]at v;have h:Hd (Fj a=g.toNat):=i.2;rw[y,u];clear b e i y u;go_wp2;go_ret;exact⟨by rw[h.o];simp[yQ],n.o,p.o,o.o⟩
def vx(a:Option (List UInt8)):List UInt8:=oq (Fj a) (mj 1 a)
def iv(a:Option (List UInt8)):Option (List UInt8):=mj (Fj a) (mj 1 a)
def Bx(b:Nat)(a:Option (List UInt8)):List UInt8:=if b=0 then oq (Fj (iv a)) (mj 1 (iv a))else oq 8 (iv a)
def Tv(b:Nat)(a:Option (List UInt8)):Option (List UInt8):=if b=0 then mj (Fj (iv a)) (mj 1 (iv a))else mj 8 (iv a)
def Ov(a:List ej)(b:List UInt8):Bool:=match a.getLast? with
 |none=>true
 |some c=>Op.bytesLess c.key b
def lx(c:Nat)(b:List ej)(a:Option (List UInt8)):Bool:= !(c==0&&decide (12<Fj (iv a)))&&decide (1<=Fj a)&&decide (Fj a<=12)&&Ov b (vx a)
def sq(c:Nat):Nat->List ej->Option (List UInt8)->Option (List ej)
 |0,a,e=>if e=some []then some a else none
 |_+1,_,none=>none
 |d+1,a,some b=>if lx c a (some b)then sq c d (a++[⟨vx (some b),Bx c (some b),0⟩]) (Tv c (some b))else none
theorem Lx(c a:Nat)(b:List ej):sq c a b none=none:=by cases a<;>simp[sq]
def Xj(a:List UInt8):Option (Nat×List ej):=
 if Fj (some a)<=6/\Fj (mj 1 (some a))<=60/\(Fj (some a)=0\/Fj (mj 1 (some a))≠0)then(sq (Fj (some a)) (Fj (mj 1 (some a))) [] (mj 1 (mj 1 (some a)))).map (fun b=>(Fj (some a),b))else none
theorem mU{g:World}{b c e f:Nat}{l m:List Value}(i:aj g b e l)(j:aj g c f m)(k:e≠f):b≠c:=fun h=>by
 subst h;have d:=i;have a:=j;unfold aj at d a;rw[d]at a;simp at a;exact k a.2
structure dz(w:World)(K:Nat->Prop)(wr:World)(rb pb lv:Nat)(cur:dj)(its:List ej)(o:Option (List UInt8)):Prop where
 be:Below w.heap.size w wr
 rd:rz wr K rb o
 pg:aj wr pb 80 [.int .i64 lv,cur.val]
 qg:aj wr w.heap.size 80 [.int .i64 0,.slice none 0 0]
 own:jz wr w.heap.size cur.val its
 n1:w.heap.size<rb
 n2:w.heap.size<pb
 n3:rb≠pb
 kk:∀k,K k->k<w.heap.size
theorem rz.rowNe{f:World}{g:Nat->Prop}{d b:Nat}{j:Option (List UInt8)}{e:Nat}{c:List Value}(a:rz f g d j)(h:aj f b e c)(i:e≠77):b≠d:=by
 obtain⟨l,c,k,a,_⟩:=a;exact mU h a.row i
theorem rz.ownNe{e:World}{f:Nat->Prop}{c g b l j:Nat}{d:Value}{m:List Value}{k:Option (List UInt8)}(a:rz e f c k)(h:e.ownsRow g b l d j m)(i:b≠77):d.ownBlock≠some c:=by
 obtain⟨p,o,n,a,_⟩:=a;exact xj h a.row i
theorem dz.frame{j wr o:World}{k S:Nat->Prop}{i h m:Nat}{d:dj}{l:List ej}{n:Option (List UInt8)}(a:dz j k wr i h m d l n)(c:bj S wr o)(p:¬S i)(q:¬S h)(f:∀b,S b->j.heap.size<b)(r:∀b,d.val.ownBlock=some b->¬S b):dz j k o i h m d l n:=
 ⟨a.be.trans (c.below a.be.size (fun b g=>EN (f b g))),a.rd.frame c p (fun b g e=>by have:=a.kk b g;have:=f b e;omega),aj.of_block a.pg (c.block _ (aj.lt a.pg) q),aj.of_block a.qg (c.block _ (aj.lt a.qg) (fun e=>by have:=f _ e;omega)),
  ij a.own c r,a.n1,a.n2,a.n3,a.kk⟩
theorem dz.below{w wr w':World}{b:Nat->Prop}{g f lv:Nat}{c:dj}{d:List ej}{e:Option (List UInt8)}(h:dz w b wr g f lv c d e)(i:Below wr.heap.size wr w'):dz w b w' g f lv c d e:=h.frame (bj.of_below_all (S:=fun _=>False) i) (fun a=>a) (fun a=>a) (fun _ a=>a.elim) (fun _ _ a=>a)
theorem dz.read{n wr g:World}{e:Nat->Prop}{d m k:Nat}{h:dj}{j:List ej}{p l:Option (List UInt8)}(a:dz n e wr d m k h j p)(c:bj (fun f=>f=d) wr g)(o:rz g e d l):dz n e g d m k h j l:=
 ⟨a.be.trans (c.below a.be.size (fun f i=>by have:=a.n1;omega)),o,aj.of_block a.pg (c.block _ (aj.lt a.pg) (fun b=>a.n3 b.symm)),aj.of_block a.qg (c.block _ (aj.lt a.qg) (fun b=>by have:=a.n1;omega)),
  ij a.own c (fun f i b=>a.rd.ownNe a.own (by decide) (by rw[i,b])),a.n1,a.n2,a.n3,a.kk⟩
theorem dz.push{h wr q e:World}{k:Nat->Prop}{o g m:Nat}{cur cur':dj}{l:List ej}{v:ej}{n:Option (List UInt8)}(c:dz h k wr o g m cur l n)(w:Below wr.heap.size wr q)(s:jz e h.heap.size cur'.val (l++[v]))(i:bj (fun b=>cur.val.ownBlock=some b) q e):
  dz h k (e.setCell ⟨g,1,none⟩ cur'.val) o g m cur' (l++[v]) n:=by
 have a:=c.below w;have x:rz e k o n:=a.rd.frame i (fun d=>a.rd.ownNe a.own (by decide) d) (fun b f d=>by have:=c.kk b f;have:=(c.own.lt b d).1;omega);have t:aj e g 80 [.int .i64 m,cur.val]:=aj.of_block a.pg (i.block _ (aj.lt a.pg) (fun d=>xj a.own a.pg (by decide) d));have u:aj e h.heap.size 80 [.int .i64 0,.slice none 0 0]:=aj.of_block a.qg (i.block _ (aj.lt a.qg) (fun d=>xj a.own a.qg (by decide) d));have j:bj (fun b=>b=g) e (e.setCell ⟨g,1,none⟩ cur'.val):=(bj.refl (fun b=>b=g) _).setCell (p:=⟨g,1,none⟩) rfl _;have r:Below h.heap.size h e:=a.be.trans (i.below a.be.size (fun b f=>(a.own.lt b f).1));refine⟨r.trans (j.below r.size (fun b f=>by have:=c.n2;omega)),x.frame j c.n3 (fun b f d=>by have:=c.kk b f;have:=c.n2;omega),by simpa using aj.set t 1 cur'.val,aj.of_block u (j.block _ (aj.lt u) (fun d=>by have:=c.n2;omega)),ij s j (fun b f d=>xj s t (by decide) (by rw[f,d])),c.n1,c.n2,c.n3,c.kk⟩
theorem dz.fin{a wr:World}{i:Nat->Prop}{m l c:Nat}{b:dj}{h:List ej}{k:Option (List UInt8)}(d:dz a i wr m l c b h k):
  aj ((wr.setCell ⟨a.heap.size,0,none⟩ (.int .i64 c)).setCell ⟨a.heap.size,1,none⟩ b.val) a.heap.size 80 [.int .i64 c,b.val]/\Below a.heap.size a ((wr.setCell ⟨a.heap.size,0,none⟩ (.int .i64 c)).setCell ⟨a.heap.size,1,none⟩ b.val)/\
   jz ((wr.setCell ⟨a.heap.size,0,none⟩ (.int .i64 c)).setCell ⟨a.heap.size,1,none⟩ b.val) a.heap.size b.val h:=by
 have f:bj (fun e=>e=a.heap.size) wr ((wr.setCell ⟨a.heap.size,0,none⟩ (.int .i64 c)).setCell ⟨a.heap.size,1,none⟩ b.val):=((bj.refl (fun e=>e=a.heap.size) wr).setCell (p:=⟨a.heap.size,0,none⟩) rfl _).setCell (p:=⟨a.heap.size,1,none⟩) rfl _;refine⟨by simpa using(aj.set d.qg 0 (.int .i64 c)).set 1 b.val,d.be.trans (f.below d.be.size (fun e g=>by omega)),ij d.own f (fun e g j=>xj d.own d.qg (by decide) (by rw[g,j]))⟩
def Pk(b:World)(c:List UInt8)(i:Ending)(h:World):Prop:=∃(a:Nat) (d:dj) (g:Bool),i=.returned (.tuple #[.agg #[.int .i64 a,d.val],.bool g])/\Below b.heap.size b h/\g=(Xj c).isSome/\a<256/\(∀f e,Xj c=some (f,e)->a=f/\jz h b.heap.size d.val e)
theorem Mx{c wr:World}{g:Nat->Prop}{m l a:Nat}{b:dj}{j:List ej}{k:Option (List UInt8)}{d:List UInt8}(h:dz c g wr m l a b j k)(f:Xj d=none)(i:a<256):
  Pk c d (.returned (.tuple #[.agg #[.int .i64 a,b.val],.bool false])) ((wr.setCell ⟨c.heap.size,0,none⟩ (.int .i64 a)).setCell ⟨c.heap.size,1,none⟩ b.val):=
 ⟨a,b,false,rfl,h.fin.2.1,by rw[f];rfl,i,fun n o e=>by rw[f]at e;cases e⟩
theorem UU{c wr:World}{i:Nat->Prop}{m l a:Nat}{b:dj}{h:List ej}{k:Option (List UInt8)}{d:List UInt8}(f:dz c i wr m l a b h k)(g:Xj d=some (a,h))(j:a<256):
  Pk c d (.returned (.tuple #[.agg #[.int .i64 a,b.val],.bool true])) ((wr.setCell ⟨c.heap.size,0,none⟩ (.int .i64 a)).setCell ⟨c.heap.size,1,none⟩ b.val):=
 ⟨a,b,true,rfl,f.fin.2.1,by rw[g];rfl,j,fun n o e=>by rw[g]at e;cases e;exact⟨rfl,f.fin.2.2⟩⟩
end
section
attribute [local go_sem↓] Go.wp_at_zero Go.wp_at_succ
theorem eY{a:List UInt8}{b c:Nat}(e:Fj (some a)=b)(f:Fj (mj 1 (some a))=c)(d:¬(b<=6/\c<=60/\(b=0\/c≠0))):Xj a=none:=by
 subst e;subst f;unfold Xj;rw[if_neg d]
theorem cK{b:List UInt8}{a c:Nat}(e:Fj (some b)=a)(f:Fj (mj 1 (some b))=c)(d:a<=6/\c<=60/\(a=0\/c≠0)):Xj b=(sq a c [] (mj 1 (mj 1 (some b)))).map (fun g=>(a,g)):=by
 subst e;subst f;unfold Xj;rw[if_pos d]
theorem wW{b a:World}{d:Nat->Prop}{f c:Nat}{k:Option (List UInt8)}(l:∀j,d j->j<b.heap.size)(g:Below b.heap.size b a)(h:aj a b.heap.size 80 [.int .i64 0,.slice none 0 0])(i:rz a d f k)(m:b.heap.size<f)(n:b.heap.size<a.heap.size):
  dz b d (a.alloc (.cells #[.int .i64 c,.slice none 0 0] 80)) f a.heap.size c ⟨none,0,0⟩ [] k:=by
 have o:=i.lt;have e:Below a.heap.size a (a.alloc (.cells #[.int .i64 c,.slice none 0 0] 80)):=tO;exact⟨g.trans (e.mono g.size),i.below e,aj.new a 80 [.int .i64 c,.slice none 0 0],h.below (aj.lt h) e,iN _ _ _ _,m,n,by omega,l⟩
theorem dz.drewN{i wr:World}{b:Nat->Prop}{h g e:Nat}{c:dj}{d:List ej}{f:Option (List UInt8)}(j:dz i b wr h g e c d f)(k:Nat):dz i b (wr.drewN k) h g e c d f:=by
 have a:=VM wr.heap.size wr;exact j.below ⟨a.os,a.tape,a.output,a.size,a.block⟩
theorem jw{i a:World}{e:List UInt8}{b:Ending}(k:Pk i e b a):Pk i e b a.drew:=by
 obtain⟨p,j,q,l,c,m,n,f⟩:=k;have d:=VM a.heap.size a;have o:Below a.heap.size a a.drew:=⟨d.os,d.tape,d.output,d.size,d.block⟩;exact⟨p,j,q,l,⟨c.os,c.tape,c.output,c.size,c.block⟩,m,n,fun h g b=>⟨(f h g b).1,lj (f h g b).2 o⟩⟩
theorem xW(n:Nat->Prop)(t:dj)(h:List UInt8)(a:World)(cr:Cq a n t h)(be:∀c,n c->c<a.heap.size):
  CP 66 #[.slice t.a t.n t.cap] a (Pk a h):=by
 have bd:Below a.heap.size a ((a.alloc (.cells #[.int .i64 0,.slice none 0 0] 80)).alloc (.cells #[.slice t.a t.n t.cap,.bool false] 77)):=tO.alloc (by simp) _;have c9:aj ((a.alloc (.cells #[.int .i64 0,.slice none 0 0] 80)).alloc (.cells #[.slice t.a t.n t.cap,.bool false] 77)) a.heap.size 80 [.int .i64 0,.slice none 0 0]:=(aj.new a _ _).alloc _;have de:rz ((a.alloc (.cells #[.int .i64 0,.slice none 0 0] 80)).alloc (.cells #[.slice t.a t.n t.cap,.bool false] 77)) n (a.heap.size+1) (some h):=
  ⟨t,h,false,⟨aj.new_at _ _ _ _ (by simp),cr.below bd,fun l=>by have:=be _ l;omega⟩,rfl⟩
 have cT:Hd (∀c,n c->c<a.heap.size):=be;have cI:Hd (BB a ((a.alloc (.cells #[.int .i64 0,.slice none 0 0] 80)).alloc (.cells #[.slice t.a t.n t.cap,.bool false] 77))):=bd;have d4:Hd (aj _ _ _ _):=c9;clear cr be bd c9;go_enter Tryz.func66,Tryz.ntmps66;go_wp2_with fail;refine(fJ n (a.heap.size+1) (some h) _ de).mono ?_;rintro l V ⟨rfl,bf,cv,cl⟩;have ca:Below a.heap.size a V:=cI.o.trans (bf.below (by simp;omega) (fun c L=>by omega));have ck:aj V a.heap.size 80 [.int .i64 0,.slice none 0 0]:=aj.of_block d4.o (bf.block _ (by simp;omega) (by omega));have cA:a.heap.size<V.heap.size:=by rw[cv];simp;omega
 have b2:Hd (dz a n _ (a.heap.size+1) V.heap.size (Fj (some h)) ⟨none,0,0⟩ [] (mj 1 (some h))):=wW cT.o ca ck cl (by omega) cA;have H:=zy (some h);have el:=zy (mj 1 (some h));have d1:Hd (Fj (some h)=Fj (some h)):=rfl;have d2:Hd (Fj (mj 1 (some h))=Fj (mj 1 (some h))):=rfl;have ci:=fJ n (a.heap.size+1) (mj 1 (some h)) _ b2.o.rd;generalize ai:Fj (some h)=b at*;generalize ak:Fj (mj 1 (some h))=f at*;have d1:Hd (Fj (some h)=b):=ai;have d2:Hd (Fj (mj 1 (some h))=f):=ak;have bP:Hd (¬(b<=6/\f<=60/\(b=0\/f≠0))->Xj h=none):=fun b8=>eY ai ak b8;have bB:Hd (b<=6/\f<=60/\(b=0\/f≠0)->Xj h=(sq b f [] (mj 1 (mj 1 (some h)))).map (fun e=>(b,e))):=fun b8=>cK ai ak b8;have bO:Hd (Calls _ _ _ _ _):=ci;clear ai ak ci bf cv cl ca ck;go_wp2_with fail;refine bO.o.mono ?_;rintro l a8 ⟨rfl,cd,dt,cm⟩;have v:Hd (dz a n a8 (a.heap.size+1) V.heap.size b ⟨none,0,0⟩ [] (mj 1 (mj 1 (some h)))):=b2.o.read cd cm;clear b2 cd dt cm bO;have c5:=v.o.pg.cell 0 (by simp);have c6:=v.o.pg.cell 1 (by simp);have d6:=v.o.qg.frozen 0;have d7:=v.o.qg.frozen 1;have cB:=v.o.qg.cell 0 (by simp);have cC:=v.o.qg.cell 1 (by simp);simp only[cN,gN,dj.val]at c5 c6 cB cC;generalize V.heap.size=m at*;have eq:m<a8.heap.size:=aj.lt v.o.pg;have em:a.heap.size<m:=cA;have en:m≠a.heap.size:=by omega
 have eo:a.heap.size≠m:=by omega
 by_cases bm:b<=6/\f<=60/\(b=0\/f≠0)
 .have bc:¬(6:Int)<b:=by omega
  have bb:¬(60:Int)<f:=by omega
  have ac:Hd (Xj h=(sq b f [] (mj 1 (mj 1 (some h)))).map (fun e=>(b,e))):=bB.o bm;have aE:Hd (b<=6/\f<=60/\(b=0\/f≠0)):=bm;have dT:Hd (a.heap.size+1<a8.heap.size):=v.o.rd.lt;clear bP bB;go_upto_region 4 with fail
  go_cut [34] (fun b5 W=>b5=.bool false/\W=a8)
  case first=>
   by_cases M:b=0
   .subst M;go_wp2_with fail;go_meet
    case rel=>exact⟨by simp;omega,rfl⟩
   .have eh:(0:Int)<b:=by omega
    have ek:((f:Int)==0)=false:=by have:=aE.o;simp;omega
    go_wp2_with fail;go_meet
    case rel=>exact⟨by simp;omega,rfl⟩
  case rest=>
   obtain⟨rfl,ao⟩:=hcut;obtain rfl:a8=wc:=ao.symm;clear ao;go_wp2
   go_loopw [7,8,9,10] (fun br _ _ _ wr=>∃(c:Nat) (d:dj) (e:List ej) (a6:Option (List UInt8)),c<=f/\br=.int .i64 c/\Hd (dz a n wr (a.heap.size+1) m b d e a6)/\Hd (e.length=c)/\Hd (sq b (f - c) e a6=sq b f [] (mj 1 (mj 1 (some h))))) (fun br _ _ _ _=>f - (intOf br).toNat)
   case atStart=>exact⟨0,⟨none,0,0⟩,[],_,by omega,by simp,v,rfl,rfl⟩
   case round=>
    obtain⟨c,d,e,a6,L,rfl,r,E,Q⟩:=hrel;obtain⟨x,g,af,a5,al⟩:=r.o.rd;have dE:wr.cell? ⟨a.heap.size+1,0,none⟩=some (.slice x.a x.n x.cap):=aj.cell a5.row 0 (by simp);have dI:wr.cell? ⟨a.heap.size+1,1,none⟩=some (.bool af):=aj.cell a5.row 1 (by simp);have Z:Hd (a6=if af then none else some g):=al;have c0:Hd (x.n=g.length):=a5.sub.bs.n;have G:=r.o.pg.cell 0 (by simp);have ah:=r.o.pg.cell 1 (by simp);have da:=r.o.qg.frozen 0;have db:=r.o.qg.frozen 1;have c7:=r.o.qg.cell 0 (by simp);have c8:=r.o.qg.cell 1 (by simp);simp only[cN,gN,dj.val]at G ah c7 c8;have er:m<wr.heap.size:=aj.lt r.o.pg;have es:a.heap.size+1<wr.heap.size:=aj.lt a5.row;clear a5 al c5 c6 d6 d7 cB cC;by_cases cf:c<f/\af=false
    .obtain⟨ch,rfl⟩:=cf;have al:a6=some g:=Z.o;subst al;have bn:(c:Int)<f:=by omega
     have cb:Below wr.heap.size wr (wr.alloc (.cells #[.string ⟨#[]⟩,.string ⟨#[]⟩,.int .i64 0] 84)):=tO;have b0:Hd (dz a n (wr.alloc (.cells #[.string ⟨#[]⟩,.string ⟨#[]⟩,.int .i64 0] 84)) (a.heap.size+1) m b d e (some g)):=r.o.below cb;have bI:Hd (Calls _ _ _ _ _):=fJ n (a.heap.size+1) (some g) _ b0.o.rd;have ed:=zy (some g);have bC:Hd (∀i,Fj (some g)=i->vx (some g)=oq i (mj 1 (some g))/\iv (some g)=mj i (mj 1 (some g))):=fun i l=>by subst l;exact⟨rfl,rfl⟩
     clear cb dE;go_wp2_with fail;refine bI.o.mono ?_;rintro l bv ⟨rfl,bg,du,bo⟩;have bR:Hd (dz a n bv (a.heap.size+1) m b d e (mj 1 (some g))):=b0.o.read bg bo;have b3:Hd (aj bv wr.heap.size 84 [.string ⟨#[]⟩,.string ⟨#[]⟩,.int .i64 0]):=aj.of_block (aj.new wr _ _) (bg.block _ (by simp) (by omega));have c1:Hd (Calls _ _ _ _ _):=nQ n (a.heap.size+1) (Fj (some g)) (mj 1 (some g)) bv bo;generalize cg:Fj (some g)=i at*;have aI:Hd (vx (some g)=oq i (mj 1 (some g))/\iv (some g)=mj i (mj 1 (some g))):=bC.o i rfl;have aO:Hd (Fj (some g)=i):=cg;clear bC cg bg du bo bI b0 G ah dI;go_wp2_with fail;refine c1.o.mono ?_;rintro l N ⟨bs,rfl,bh,dA,am,cn⟩;have bS:Hd (dz a n N (a.heap.size+1) m b d e (mj i (mj 1 (some g)))):=bR.o.read bh cn;have ap:aj N wr.heap.size 84 [.string ⟨#[]⟩,.string ⟨#[]⟩,.int .i64 0]:=aj.of_block b3.o (bh.block _ (aj.lt b3.o) (by omega));have df:=wj (P:=Tryz.prog) N 38 9 5 bs.a bs.n bs.cap _ Tryz.underlying38 Tryz.underlying5 Tryz.underlying9 am.bs.n am.bs.sl am.bs.nil;have d8:=ap.frozen 0;have dP:=ap.cell 0 (by simp);have c3:Hd (aj N wr.heap.size 84 [.string ⟨#[]⟩,.string ⟨#[]⟩,.int .i64 0]):=ap;have Y:Hd (vx (some g)=oq i (mj 1 (some g))):=aI.o.1;have K:Hd (iv (some g)=mj i (mj 1 (some g))):=aI.o.2;generalize oq i (mj 1 (some g))=j at*;generalize mj i (mj 1 (some g))=u at*;clear aI bh dA am cn ap c1 bR b3;have a4:=(bj.refl (fun c=>c=wr.heap.size) N).setCell (p:=⟨wr.heap.size,0,none⟩) rfl (.string ⟨j.toArray⟩);have a1:Hd (dz a n (N.setCell ⟨wr.heap.size,0,none⟩ (.string ⟨j.toArray⟩)) (a.heap.size+1) m b d e u):=bS.o.frame a4 (by omega) (by omega) (fun c L=>by omega) (fun c L l=>by have:=(r.o.own.lt c L).2;omega);have ad:Hd (aj (N.setCell ⟨wr.heap.size,0,none⟩ (.string ⟨j.toArray⟩)) wr.heap.size 84 [.string ⟨j.toArray⟩,.string ⟨#[]⟩,.int .i64 0]):=by unfold Hd;simpa using aj.set c3.o 0 (.string ⟨j.toArray⟩)
     have G:=a1.o.pg.cell 0 (by simp);simp only[cN]at G;have e0:Hd (a.heap.size<wr.heap.size):=by unfold Hd;omega
     have aR:Hd (Calls _ _ _ _ _):=fJ n (a.heap.size+1) u _ a1.o.rd;have dr:=zy u;clear a4;unfold dj.val
     go_upto_if 57 with fail
     go_cut [10] (fun dO W=>∃(o:Nat) (I:Option (List UInt8)),dO=.int .i64 o/\o<=12/\Hd (dz a n W (a.heap.size+1) m b d e I)/\Hd (aj W wr.heap.size 84 [.string ⟨j.toArray⟩,.string ⟨#[]⟩,.int .i64 0])/\
      Hd (sq b (f - c) e (some g)=if decide (1<=i)&&decide (i<=12)&&Ov e j then sq b (f - (c+1)) (e++[⟨j,oq o I,0⟩]) (mj o I)else none))
     case first=>
      by_cases M:b=0
      .subst M;go_wp2_with fail;refine aR.o.mono ?_;rintro l cD ⟨rfl,bi,dB,co⟩;have w:Hd (dz a n cD (a.heap.size+1) m 0 d e (mj 1 u)):=a1.o.read bi co;have a3:Hd (aj cD wr.heap.size 84 [.string ⟨j.toArray⟩,.string ⟨#[]⟩,.int .i64 0]):=aj.of_block ad.o (bi.block _ (aj.lt ad.o) (by omega));have a2:Hd (∀o,Fj u=o->Fj u=o):=fun _ l=>l;generalize cu:Fj u=o at*;have a2:Hd (Fj u=o):=cu;clear cu bi dB co aR G;by_cases ct:o<=12
       .have ds:¬(12:Int)<o:=by omega
        go_wp2_with fail;go_meet
        case rel=>
         refine⟨o,mj 1 u,rfl,ct,w,a3,?_⟩;unfold Hd;have aP:Bx 0 (some g)=oq o (mj 1 u):=by unfold Bx;rw[if_pos rfl,K.o,a2.o]
         have aT:Tv 0 (some g)=mj o (mj 1 u):=by unfold Tv;rw[if_pos rfl,K.o,a2.o]
         have X:lx 0 e (some g)=(decide (1<=i)&&decide (i<=12)&&Ov e j):=by
          unfold lx;rw[aO.o,Y.o,K.o,a2.o];have l:decide (12<o)=false:=by simp;omega
          simp only[l,Bool.and_false,Bool.not_false,Bool.true_and]
         rw[show f - c=(f - (c+1))+1 by omega,sq,Y.o,aP,aT,X]
       .have ds:(12:Int)<o:=by omega
        have A:Hd (Xj h=none):=by
         unfold Hd;have X:lx 0 e (some g)=false:=by
          unfold lx;rw[K.o,a2.o];have l:decide (12<o)=true:=by simp;omega
          simp[l]
         rw[ac.o,<-Q.o,show f - c=(f - (c+1))+1 by omega,sq,X];rfl
        have G:=w.o.pg.cell 0 (by simp);have ah:=w.o.pg.cell 1 (by simp);have b6:=w.o.qg.frozen 0;have b7:=w.o.qg.frozen 1;have T:=w.o.qg.cell 0 (by simp);have U:=w.o.qg.cell 1 (by simp);simp only[cN,gN,dj.val]at G ah T U;go_wp2;exact Lq (k:=2) (k2:=3) (cs:=[.int .i64 ((0:Nat):Int),.slice d.a d.n d.cap]) rfl rfl rfl w.o.fin.1 Tryz.underlying80 rfl Tryz.sizePage rfl (Mx w.o A.o H)
      .have ei:((b:Int)==0)=false:=by simp;omega
       go_wp2_with fail;go_meet
       case rel=>
        refine⟨8,u,rfl,by omega,a1,ad,?_⟩;unfold Hd;have aP:Bx b (some g)=oq 8 u:=by unfold Bx;rw[if_neg M,K.o]
        have aT:Tv b (some g)=mj 8 u:=by unfold Tv;rw[if_neg M,K.o]
        have X:lx b e (some g)=(decide (1<=i)&&decide (i<=12)&&Ov e j):=by
         unfold lx;rw[aO.o,Y.o];have l:(b==0)=false:=by simp[M]
         simp only[l,Bool.false_and,Bool.not_false,Bool.true_and]
        rw[show f - c=(f - (c+1))+1 by omega,sq,Y.o,aP,aT,X]
     case rest=>
      obtain⟨o,I,rfl,ct,w,a3,ab⟩:=hcut;have c2:Hd (Calls _ _ _ _ _):=nQ n (a.heap.size+1) o I wc w.o.rd;clear aR a1 ad bS c3 G d8 dP df K Y aO da db c7 c8 dr;go_wp2_with fail;refine c2.o.mono ?_;rintro l J ⟨bu,rfl,bk,dC,an,cp⟩;have bT:Hd (dz a n J (a.heap.size+1) m b d e (mj o I)):=w.o.read bk cp;have ar:aj J wr.heap.size 84 [.string ⟨j.toArray⟩,.string ⟨#[]⟩,.int .i64 0]:=aj.of_block a3.o (bk.block _ (aj.lt a3.o) (by omega));have dg:=wj (P:=Tryz.prog) J 38 9 5 bu.a bu.n bu.cap _ Tryz.underlying38 Tryz.underlying5 Tryz.underlying9 an.bs.n an.bs.sl an.bs.nil;have d9:=ar.frozen 1;have dR:=ar.cell 1 (by simp);have c4:Hd (aj J wr.heap.size 84 [.string ⟨j.toArray⟩,.string ⟨#[]⟩,.int .i64 0]):=ar;generalize oq o I=q at*;generalize mj o I=a7 at*;clear bk dC an cp ar c2 w a3;have a4:=(bj.refl (fun c=>c=wr.heap.size) J).setCell (p:=⟨wr.heap.size,1,none⟩) rfl (.string ⟨q.toArray⟩);have B:Hd (dz a n (J.setCell ⟨wr.heap.size,1,none⟩ (.string ⟨q.toArray⟩)) (a.heap.size+1) m b d e a7):=bT.o.frame a4 (by omega) (by omega) (fun c L=>by omega) (fun c L l=>by have:=(r.o.own.lt c L).2;omega);have R:Hd (aj (J.setCell ⟨wr.heap.size,1,none⟩ (.string ⟨q.toArray⟩)) wr.heap.size 84 [.string ⟨j.toArray⟩,.string ⟨q.toArray⟩,.int .i64 0]):=by unfold Hd;simpa using aj.set c4.o 1 (.string ⟨q.toArray⟩)
      clear a4;unfold dj.val;go_upto_region 18 with fail;clear d9 dR dg c4 bT;generalize J.setCell ⟨wr.heap.size,1,none⟩ (.string ⟨q.toArray⟩)=F at*;have au:=B.o.pg.cell 0 (by simp);have av:=B.o.pg.cell 1 (by simp);have T:=B.o.qg.cell 0 (by simp);have U:=B.o.qg.cell 1 (by simp);have b6:=B.o.qg.frozen 0;have b7:=B.o.qg.frozen 1;have aA:=R.o.cell 0 (by simp);have aB:=R.o.cell 1 (by simp);have aC:=R.o.cell 2 (by simp);simp only[cN,gN,dj.val]at au av T U aA aB aC;have et:wr.heap.size<F.heap.size:=aj.lt R.o;have ep:m<F.heap.size:=aj.lt B.o.pg;have bp:Aq F d.a e/\d.n=e.length:=jj.ofOwn (s:=d) B.o.own;have bw:Hd (d.n=c):=by unfold Hd;rw[bp.2];exact E.o
      have b1:Hd (Aq F d.a e):=bp.1;clear bp;have ee:(c:Int)<=60:=by have:=aE.o;omega
      obtain⟨z,bl⟩:∃z,(decide (1<=i)&&decide (i<=12)&&Ov e j)=z:=⟨_,rfl⟩;rw[bl]at ab;have aa:Hd ((decide (1<=i)&&decide (i<=12)&&Ov e j)=z):=bl;clear bl
      go_cut [89] (fun b5 W=>∃S,b5=.bool (!z)/\W=F.drewN S)
      case first=>
       clear R Z bc bb r Q ab;by_cases b9:1<=i
       .have dd:decide ((i:Int)<1)=false:=by simp;omega
        by_cases ba:i<=12
        .have dc:decide ((12:Int)<i)=false:=by simp;omega
         by_cases eb:c=0
         .have di:decide ((0:Int)<c)=false:=by simp;omega
          have dh:e=[]:=ZN.1 (by have:=E.o;omega);obtain rfl:z=true:=by rw[<-aa.o,dh];simp[Ov,b9,ba]
          go_quiet (fail);go_wp2_with fail;go_meet
          case rel=>exact⟨nq,rfl,rfl⟩
         .have di:decide ((0:Int)<c)=true:=by simp;omega
          have ef:0<c:=by omega
          have ec:decide (0<c)=true:=by simp;omega
          have dl:c - 1<e.length:=by have:=E.o;omega
          obtain⟨e1,ey,cc,e9,dS,_,_⟩:=Aq.cells b1.o (c - 1) dl;have bD:Hd (e.getLast?=some e[c - 1]):=by
           unfold Hd;rw[ebj,UM (by have:=E.o;omega)]
           congr 2;have:=E.o;omega
          unfold Hz at dS;have cR:Hd (Op.bytesLess e[c - 1].key j=z):=by
           unfold Hd;rw[<-aa.o];unfold Ov;rw[bD.o];simp[b9,ba]
          generalize e[c - 1].key=ex at*;have eg:IntKind.i64.wrap ((c:Int) - 1)=((c - 1:Nat):Int):=by simp only[qaj];omega
          have dm:((c - 1:Nat):Int)<d.n:=by have:=bw.o;omega
          obtain⟨e2,e4,e3⟩:=d;simp only at cc dm;subst cc;clear bD b1 bw E;have ea:=cR.o;cases z with
          |true=>
           go_quiet (fail);go_wp2_with fail;go_meet
           case rel=>exact⟨nq,rfl,rfl⟩
          |false=>
           go_quiet (fail);go_wp2_with fail;go_meet
           case rel=>exact⟨nq,rfl,rfl⟩
        .have dc:decide ((12:Int)<i)=true:=by simp;omega
         obtain rfl:z=false:=by rw[<-aa.o];simp[ba]
         go_quiet (fail);go_wp2_with fail;go_meet
         case rel=>exact⟨nq,rfl,rfl⟩
       .have dd:decide ((i:Int)<1)=true:=by simp;omega
        obtain rfl:z=false:=by rw[<-aa.o];simp[b9]
        go_quiet (fail);go_wp2_with fail;go_meet
        case rel=>exact⟨nq,rfl,rfl⟩
      case rest=>
       obtain⟨S,rfl,ao⟩:=hcut;subst ao;clear au av T U b6 b7 aA aB aC b1 Z;have y:Hd (dz a n (F.drewN S) (a.heap.size+1) m b d e a7):=B.o.drewN S;have b4:Hd (aj (F.drewN S) wr.heap.size 84 [.string ⟨j.toArray⟩,.string ⟨q.toArray⟩,.int .i64 0]):=aj.of_block R.o rfl;generalize F.drewN S=D at*;have av:=y.o.pg.cell 1 (by simp);simp only[cN,gN,dj.val]at av;cases z with
       |false=>
        have A:Hd (Xj h=none):=by
         unfold Hd;rw[ac.o,<-Q.o,ab.o];rfl
        have au:=y.o.pg.cell 0 (by simp);have T:=y.o.qg.cell 0 (by simp);have U:=y.o.qg.cell 1 (by simp);have b6:=y.o.qg.frozen 0;have b7:=y.o.qg.frozen 1;simp only[cN,gN,dj.val]at au T U;go_wp2;exact Lq (k:=2) (k2:=3) (cs:=[.int .i64 b,.slice d.a d.n d.cap]) rfl rfl rfl y.o.fin.1 Tryz.underlying80 rfl Tryz.sizePage rfl (Mx y.o A.o H)
       |true=>
        have aA:=b4.o.cell 0 (by simp);have aB:=b4.o.cell 1 (by simp);have aC:=b4.o.cell 2 (by simp);simp only[cN,gN]at aA aB aC;have cS:Hd (sq b (f - (c+1)) (e++[⟨j,q,0⟩]) a7=sq b f [] (mj 1 (mj 1 (some h)))):=by
         unfold Hd;rw[<-Q.o,ab.o,if_pos rfl]
        have a9:Hd (BB D (D.alloc (.cells #[.string ⟨j.toArray⟩,.string ⟨q.toArray⟩,.int .i64 0] 84))):=tO;have bE:Hd (jz (D.alloc (.cells #[.string ⟨j.toArray⟩,.string ⟨q.toArray⟩,.int .i64 0] 84)) a.heap.size (.slice d.a d.n d.cap) e):=(y.o.below a9.o).own;have d5:Hd (Aq (D.alloc (.cells #[.string ⟨j.toArray⟩,.string ⟨q.toArray⟩,.int .i64 0] 84)) (some ⟨D.heap.size,0,none⟩) [⟨j,q,0⟩]):=jj.alloc_new D (nx [⟨j,q,0⟩]) _;have d0:Hd (e.length+[(⟨j,q,0⟩:ej)].length<=1000000):=by unfold Hd;have:=E.o;have:=aE.o;simp;omega
        have cP:Hd (a.heap.size<=(D.alloc (.cells #[.string ⟨j.toArray⟩,.string ⟨q.toArray⟩,.int .i64 0] 84)).heap.size):=(y.o.below a9.o).be.size;have aS:Hd (aj (D.alloc (.cells #[.string ⟨j.toArray⟩,.string ⟨q.toArray⟩,.int .i64 0] 84)) m 80 [.int .i64 b,.slice d.a d.n d.cap]):=(y.o.below a9.o).pg;go_wp2_with (at_builtin;refine Bq (by rfl) (.tmp 92) (.tmp 94) (by rfl) a.heap.size (.slice d.a d.n d.cap) e (by rfl) bE.o (some ⟨D.heap.size,0,none⟩) 1 1 [⟨j,q,0⟩] (by rfl) rfl d5.o (fun l=>by cases l) d0.o cP.o ?_;intro ae ax ag cE dp ce e8;have cj:aj cE m 80 [.int .i64 b,.slice d.a d.n d.cap]:=aj.of_block aS.o (ce.block _ (aj.lt aS.o) (fun l=>xj bE.o aS.o (by decide) l));have ez:=cj.cell 1 (by simp);have e5:=cj.frozen 1);have d3:Hd (dz a n (cE.setCell ⟨m,1,none⟩ (.slice ae ax ag)) (a.heap.size+1) m b ⟨ae,ax,ag⟩ (e++[⟨j,q,0⟩]) a7):=dz.push (cur':=⟨ae,ax,ag⟩) y.o a9.o dp ce
        go_roundw
        case measure=>simp[intOf];omega
        case rel=>exact⟨c+1,⟨ae,ax,ag⟩,e++[⟨j,q,0⟩],a7,by omega,by go_num,d3,by unfold Hd;have:=E.o;simp;omega,cS⟩
    .cases af with
     |true=>
      have A:Hd (Xj h=none):=by
       unfold Hd;rw[ac.o,<-Q.o,Z.o,if_pos rfl,Lx];rfl
      have a0:Hd (aj _ _ _ _):=r.o.fin.1;have O:Hd (Pk _ _ _ _):=Mx r.o A.o H;by_cases ch:c<f
      .have bn:(c:Int)<f:=by omega
       go_wp2
       go_region
       go_wp2;exact Lq (k:=2) (k2:=3) (cs:=[.int .i64 b,.slice d.a d.n d.cap]) rfl rfl rfl (aj.of_block a0.o rfl) Tryz.underlying80 rfl Tryz.sizePage rfl (jw O.o)
      .have bn:¬(c:Int)<f:=by omega
       go_wp2
       go_region
       go_wp2;exact Lq (k:=2) (k2:=3) (cs:=[.int .i64 b,.slice d.a d.n d.cap]) rfl rfl rfl (aj.of_block a0.o rfl) Tryz.underlying80 rfl Tryz.sizePage rfl (jw O.o)
     |false=>
      have ch:¬c<f:=fun l=>cf ⟨l,rfl⟩;have bn:¬(c:Int)<f:=by omega
      have a0:Hd (aj _ _ _ _):=r.o.fin.1;have bA:Hd (Xj h=(if g=[]then some e else none).map (fun e=>(b,e))):=by
       unfold Hd;rw[ac.o,<-Q.o,Z.o,show f - c=0 by omega];simp[sq]
      by_cases eu:x.n=0
      .have O:Hd (Pk _ _ _ _):=UU r.o (by rw[bA.o,if_pos (ZN.1 (by have:=c0.o;omega))];rfl) H;have dD:((x.n:Int)==0)=true:=by simp;omega
       go_wp2
       go_region_held3 (fun C=>C.cell? ⟨a.heap.size+1,0,none⟩=some (.slice x.a x.n x.cap)/\C.cell? ⟨a.heap.size+1,1,none⟩=some (.bool false)/\C.cell? ⟨m,0,none⟩=some (.int .i64 b)/\C.cell? ⟨m,1,none⟩=some (.slice d.a d.n d.cap)) (go_keep) (fail)
       go_wp2;exact Lq (k:=2) (k2:=3) (cs:=[.int .i64 b,.slice d.a d.n d.cap]) rfl rfl rfl (aj.of_block a0.o rfl) Tryz.underlying80 rfl Tryz.sizePage rfl (jw O.o)
      .have O:Hd (Pk _ _ _ _):=Mx r.o (by rw[bA.o,if_neg (fun l=>by have:=c0.o;rw[l]at this;simp at this;omega)];rfl) H;have dD:((x.n:Int)==0)=false:=by simp;omega
       go_wp2
       go_region_held3 (fun C=>C.cell? ⟨a.heap.size+1,0,none⟩=some (.slice x.a x.n x.cap)/\C.cell? ⟨a.heap.size+1,1,none⟩=some (.bool false)/\C.cell? ⟨m,0,none⟩=some (.int .i64 b)/\C.cell? ⟨m,1,none⟩=some (.slice d.a d.n d.cap)) (go_keep) (fail)
       go_wp2;exact Lq (k:=2) (k2:=3) (cs:=[.int .i64 b,.slice d.a d.n d.cap]) rfl rfl rfl (aj.of_block a0.o rfl) Tryz.underlying80 rfl Tryz.sizePage rfl (jw O.o)
 .have A:Hd (Xj h=none):=bP.o bm;have aD:Hd (_/\_/\_):=v.o.fin;by_cases e6:b<=6
  .have bc:¬(6:Int)<b:=by omega
   by_cases e7:f<=60
   .have bb:¬(60:Int)<f:=by omega
    have dn:f=0:=by omega
    have M:(0:Int)<b:=by omega
    subst dn;go_wp2;exact Lq (k:=2) (k2:=3) (cs:=[.int .i64 b,.slice none 0 0]) rfl rfl rfl aD.o.1 Tryz.underlying80 rfl Tryz.sizePage rfl (Mx v.o A.o H)
   .have bb:(60:Int)<f:=by omega
    go_wp2;exact Lq (k:=2) (k2:=3) (cs:=[.int .i64 b,.slice none 0 0]) rfl rfl rfl aD.o.1 Tryz.underlying80 rfl Tryz.sizePage rfl (Mx v.o A.o H)
  .have bc:(6:Int)<b:=by omega
   go_wp2;exact Lq (k:=2) (k2:=3) (cs:=[.int .i64 b,.slice none 0 0]) rfl rfl rfl aD.o.1 Tryz.underlying80 rfl Tryz.sizePage rfl (Mx v.o A.o H)
end
end Go.Proofs.YtekegfbjbainhaaGreat
