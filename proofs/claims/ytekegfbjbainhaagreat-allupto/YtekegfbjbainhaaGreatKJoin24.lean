import Derived.Test.YtekegfbjbainhaaGreatKJoin23
import Derived.Deep.DeepCutAuto
set_option maxRecDepth 100000
set_option maxHeartbeats 8000000
set_option linter.unusedVariables false
set_option linter.unusedSimpArgs false
namespace Go.Proofs.YtekegfbjbainhaaGreat
open Go.RowKit
section
theorem mL(b h:Nat)(c:List ej)(a:List UInt8):sq b (h+1) c (some a)=match Xx b a with
  |none=>none
  |some ((i,n),j)=>if Ov c i=true then sq b h (c++[⟨i,n,0⟩]) (some j)else none:=by
 show(if lx b c (some a)=true then sq b h (c++[⟨vx (some a),Bx b (some a),0⟩]) (Tv b (some a))else none)=_;unfold Xx;cases o:Tv b (some a)with
 |none=>
  simp only[Lx]
  split<;>rfl
 |some j=>
  simp only;by_cases e:1<=Fj (some a)/\Fj (some a)<=12/\(b=0->Fj (iv (some a))<=12)
  .rw[if_pos e];simp only;have g:lx b c (some a)=Ov c (vx (some a)):=by
    unfold lx;have k:decide (1<=Fj (some a))=true:=by simp[e.1]
    have l:decide (Fj (some a)<=12)=true:=by simp[e.2.1]
    have m:(b==0&&decide (12<Fj (iv (some a))))=false:=by
     by_cases f:b=0
     .have:=e.2.2 f;simp;intro _;omega
     .simp[f]
    rw[k,l,m];rfl
   rw[g]
  .rw[if_neg e];have g:lx b c (some a)=false:=by
    unfold lx;rw[tN];intro d;simp only[Daj,decide_eq_true_eq,Bool.not_eq_true',Bool.and_eq_false_iff,beq_eq_false_iff_ne,decide_eq_false_iff_not]at d;exact e ⟨d.1.1.2,d.1.2,fun f=>by rcases d.1.1.1 with d|d;exact absurd f d;omega⟩
   rw[g];rfl
theorem QZ{a:List UInt8}(b:mj 1 (mj 1 (some a))=none):Xj a=none:=by
 unfold Xj
 split
 .rw[b,Lx];rfl
 .rfl
theorem nL{a:List UInt8}(b:1<=a.length):Op.bytesLess [] a=true:=by
 cases a with
 |nil=>simp at b
 |cons d c=>rfl
theorem oL{g:Nat}{c e j f:List UInt8}(a:Xx g c=some ((e,j),f)):1<=e.length/\e.length<=12:=by
 unfold Xx at a;cases b:Tv g (some c)with
 |none=>rw[b]at a;cases a
 |some m=>
  rw[b]at a;simp only at a
  split at a
  case isFalse=>cases a
  case isTrue k=>
   simp only[yN,YN]at a;obtain⟨⟨rfl,rfl⟩,rfl⟩:=a;have d:∃h,iv (some c)=some h:=by
    cases i:iv (some c)with
    |none=>unfold Tv at b;rw[i]at b;split at b<;>cases b
    |some f=>exact⟨f,rfl⟩
   obtain⟨h,d⟩:=d;have l:(vx (some c)).length=Fj (some c):=by unfold vx;unfold iv at d;exact ky d
   omega
def Yx(a:List ej):List UInt8:=match a.getLast? with
 |none=>[]
 |some b=>b.key
theorem mK{a:List ej}{b:List UInt8}(c:1<=b.length):Ov a b=Op.bytesLess (Yx a) b:=by
 unfold Ov Yx;cases a.getLast? with
 |none=>simp only[nL c]
 |some d=>rfl
theorem dF(b:List ej)(a:ej):Yx (b++[a])=a.key:=by unfold Yx;simp
theorem pJ.frame{h:Nat}{j k:World}{b S:Nat->Prop}{l:Pj}{g i:List UInt8}(a:pJ h j b l g i)(e:bj S j k)(d:∀f,b f->¬S f):pJ h k b l g i:=⟨a.d8,a.key.frame e d,fun c=>⟨(a.low c).1.frame e d,(a.low c).2⟩,a.high⟩
structure lz(lv:Nat)(w:World)(K:Nat->Prop)(base:Nat)(cur:dj)(xs:List Pj)(its:List ej):Prop where
 own:w.ownsRow base 74 10 cur.val xs.length (Sj xs)
 len:xs.length=its.length
 en:∀i (h1:i<xs.length) (h2:i<its.length),pJ lv w K xs[i] its[i].key its[i].more
theorem lz.nil(d:Nat)(e:World)(a:Nat->Prop)(b:Nat):lz d e a b ⟨none,0,0⟩ [] []:=⟨iN _ _ _ _,rfl,fun f c=>absurd c (wN _)⟩
theorem lz.frame{h:Nat}{i j:World}{b S:Nat->Prop}{e:Nat}{c:dj}{k:List Pj}{g:List ej}(d:lz h i b e c k g)(f:bj S i j)(n:∀a,c.val.ownBlock=some a->¬S a)(o:∀a,b a->¬S a):lz h j b e c k g:=
 ⟨ij d.own f n,d.len,fun p l m=>(d.en p l m).frame f o⟩
theorem lz.below{lv:Nat}{w w':World}{b:Nat->Prop}{c:Nat}{d:dj}{f:List Pj}{e:List ej}(g:lz lv w b c d f e)(h:Below w.heap.size w w'):lz lv w' b c d f e:=g.frame (bj.of_below_all (S:=fun _=>False) h) (fun _ _ a=>a) (fun _ _ a=>a)
theorem lz.d8{k:Nat}{l:World}{e:Nat->Prop}{f:Nat}{g:dj}{d:List Pj}{j:List ej}(a:lz k l e f g d j):∀c∈d,c.d.length=8:=fun c h=>by
 obtain⟨i,b,rfl⟩:=Kaj.1 h;exact(a.en i b (by rw[<-a.len];exact b)).d8
theorem lz.toBase{g:Nat}{h:World}{b:Nat->Prop}{c d:Nat}{e:dj}{i:List Pj}{f:List ej}(a:lz g h b c e i f)(j:d<=c):lz g h b d e i f:=
 ⟨Hj a.own (fun l k=>WM j (a.own.lt l k).1),a.len,a.en⟩
theorem lz.push{l:Nat}{m n:World}{e:Nat->Prop}{h:Nat}{cur cur':dj}{g d:List Pj}{k f:List ej}(c:lz l m e h cur g k)(t:d.length=f.length)(s:∀b (x:b<d.length) (y:b<f.length),pJ l m e d[b] f[b].key f[b].more)
  (u:n.ownsRow h 74 10 cur'.val (g.length+d.length) (Sj g++Sj d))(o:bj (fun a=>cur.val.ownBlock=some a) m n)(r:∀a,e a->a<h):lz l n e h cur' (g++d) (k++f):=by
 have j:∀a,e a->¬cur.val.ownBlock=some a:=fun a j p=>by have:=(c.own.lt a p).1;have:=r a j;omega
 refine⟨by rw[XM,zZ];exact u,by rw[XM,XM,c.len,t],fun b v w=>?_⟩;by_cases i:b<g.length
 .rw[kaj i,kaj (by rw[<-c.len];exact i)];exact(c.en b i (by rw[<-c.len];exact i)).frame o j
 .have q:k.length<=b:=by rw[<-c.len];omega
  rw[haj (by omega),haj q];simp only[<-c.len];exact(s _ _ _).frame o j
structure Nx(w:World)(K:Nat->Prop)(wr:World)(rb pb lv:Nat)(cur:dj)(xs:List Pj)(its:List ej)(l:List UInt8):Prop where
 be:Below w.heap.size w wr
 rd:iz wr K rb l
 pg:aj wr pb 171 [.int .i64 lv,cur.val]
 qg:aj wr w.heap.size 171 [.int .i64 0,.slice none 0 0]
 ens:lz lv wr K w.heap.size cur xs its
 n1:w.heap.size<rb
 n2:w.heap.size<pb
 kk:∀k,K k->k<w.heap.size
theorem Nx.n3{i wr:World}{d:Nat->Prop}{c b h:Nat}{e:dj}{j:List Pj}{f:List ej}{g:List UInt8}(a:Nx i d wr c b h e j f g):b≠c:=a.rd.rowNe a.pg (by decide)
theorem Nx.below{w wr w':World}{c:Nat->Prop}{h g lv:Nat}{d:dj}{i:List Pj}{e:List ej}{f:List UInt8}(a:Nx w c wr h g lv d i e f)(b:Below wr.heap.size wr w'):Nx w c w' h g lv d i e f:=
 ⟨a.be.trans (b.mono a.be.size),a.rd.below b,aj.below a.pg a.pg.lt b,aj.below a.qg a.qg.lt b,a.ens.below b,a.n1,a.n2,a.kk⟩
theorem Nx.read{n wr h:World}{g:Nat->Prop}{f m l:Nat}{i:dj}{o:List Pj}{j:List ej}{q k:List UInt8}(a:Nx n g wr f m l i o j q)(d:bj (fun c=>c=f) wr h)(p:iz h g f k):Nx n g h f m l i o j k:=
 ⟨a.be.trans (d.below a.be.size (fun c e=>by have:=a.n1;omega)),p,aj.of_block a.pg (d.block _ a.pg.lt (fun b=>a.n3 b)),aj.of_block a.qg (d.block _ a.qg.lt (fun b=>by have:=a.n1;omega)),
  a.ens.frame d (fun c e b=>a.rd.ownNe a.ens.own (by decide) (by rw[e,b])) (fun c e b=>by have:=a.kk c e;have:=a.n1;omega),a.n1,a.n2,a.kk⟩
theorem Nx.push{h wr o f:World}{i:Nat->Prop}{s g k:Nat}{cur cur':dj}{l:List Pj}{q:List ej}{n:Pj}{it:ej}{r:List UInt8}(d:Nx h i wr s g k cur l q r)(y:Below wr.heap.size wr o)(B:pJ k o i n it.key it.more)
  (z:f.ownsRow h.heap.size 74 10 cur'.val (l.length+1) (Sj l++Sj [n]))(j:bj (fun a=>cur.val.ownBlock=some a) o f):
  Nx h i (f.setCell ⟨g,1,none⟩ cur'.val) s g k cur' (l++[n]) (q++[it]) r:=by
 have b:=d.below y;have A:iz f i s r:=b.rd.frame j (fun c=>b.rd.ownNe b.ens.own (by decide) c) (fun a e c=>by have:=d.kk a e;have:=(d.ens.own.lt a c).1;omega);have v:aj f g 171 [.int .i64 k,cur.val]:=aj.of_block b.pg (j.block _ b.pg.lt (fun c=>xj b.ens.own b.pg (by decide) c));have w:aj f h.heap.size 171 [.int .i64 0,.slice none 0 0]:=aj.of_block b.qg (j.block _ b.qg.lt (fun c=>xj b.ens.own b.qg (by decide) c));have m:bj (fun a=>a=g) f (f.setCell ⟨g,1,none⟩ cur'.val):=(bj.refl (fun a=>a=g) _).setCell (p:=⟨g,1,none⟩) rfl _;have t:Below h.heap.size h f:=b.be.trans (j.below b.be.size (fun a e=>(b.ens.own.lt a e).1));have u:lz k f i h.heap.size cur' (l++[n]) (q++[it]):=lz.push b.ens rfl (fun C x D=>by
  simp only[VN]at x;obtain rfl:C=0:=by omega
  exact B) z j d.kk
 exact⟨t.trans (m.below t.size (fun a e=>by have:=d.n2;omega)),A.frame m (fun c=>d.n3 c.symm) (fun a e c=>by have:=d.kk a e;have:=d.n2;omega),by simpa using aj.set v 1 cur'.val,aj.of_block w (m.block _ w.lt (fun c=>by have:=d.n2;omega)),
  u.frame m (fun a e c=>xj u.own v (by decide) (by rw[e,c])) (fun a e c=>by have:=d.kk a e;have:=d.n2;omega),d.n1,d.n2,d.kk⟩
def iM(a:World)(f:Nat->Prop)(h:Option (Nat×List ej))(c:Ending)(e:World):Prop:=
 Below a.heap.size a e/\match h with
  |none=>c=mz
  |some (d,g)=>∃(b:dj) (i:List Pj),c=.returned (.agg #[.int .i64 d,b.val])/\lz d e f a.heap.size b i g
end
section
attribute [local go_sem↓] Go.wp_at_zero Go.wp_at_succ
theorem Tryz.sizePgP:(Tryz.prog.info? 171).map (·.size)=some 2:=by kernel_rfl
theorem Nx.fin{a wr:World}{g:Nat->Prop}{n m c:Nat}{b:dj}{k:List Pj}{j:List ej}{l:List UInt8}(d:Nx a g wr n m c b k j l):
  aj ((wr.setCell ⟨a.heap.size,0,none⟩ (.int .i64 c)).setCell ⟨a.heap.size,1,none⟩ b.val) a.heap.size 171 [.int .i64 c,b.val]/\Below a.heap.size a ((wr.setCell ⟨a.heap.size,0,none⟩ (.int .i64 c)).setCell ⟨a.heap.size,1,none⟩ b.val)/\
   lz c ((wr.setCell ⟨a.heap.size,0,none⟩ (.int .i64 c)).setCell ⟨a.heap.size,1,none⟩ b.val) g a.heap.size b k j:=by
 have i:bj (fun e=>e=a.heap.size) wr ((wr.setCell ⟨a.heap.size,0,none⟩ (.int .i64 c)).setCell ⟨a.heap.size,1,none⟩ b.val):=((bj.refl (fun e=>e=a.heap.size) wr).setCell (p:=⟨a.heap.size,0,none⟩) rfl _).setCell (p:=⟨a.heap.size,1,none⟩) rfl _;refine⟨by simpa using(aj.set d.qg 0 (.int .i64 c)).set 1 b.val,d.be.trans (i.below d.be.size (fun e f=>by omega)),d.ens.frame i (fun e f h=>xj d.ens.own d.qg (by decide) (by rw[f,h])) (fun e f h=>by have:=d.kk e f;omega)⟩
theorem eF(u:Nat->Prop)(y:dj)(g:List UInt8)(a:World)(br:Cq a u y g)(aB:∀i,u i->i<a.heap.size):
  CP 134 #[.slice y.a y.n y.cap] a (iM a u (Xj g)):=by
 have aA:Below a.heap.size a ((a.alloc (.cells #[.int .i64 0,.slice none 0 0] 171)).alloc (.cells #[.slice y.a y.n y.cap] 168)):=tO.alloc (by simp) _;have ba:Hd (aj ((a.alloc (.cells #[.int .i64 0,.slice none 0 0] 171)).alloc (.cells #[.slice y.a y.n y.cap] 168)) a.heap.size 171 [.int .i64 0,.slice none 0 0]):=(aj.new a _ _).alloc _;have bf:iz ((a.alloc (.cells #[.int .i64 0,.slice none 0 0] 171)).alloc (.cells #[.slice y.a y.n y.cap] 168)) u (a.heap.size+1) g:=
  ⟨y,aj.new_at _ _ _ _ (by simp),br.below aA,fun e=>by have:=aB _ e;omega⟩
 have a5:Hd (∀i,u i->i<a.heap.size):=aB;have b1:Hd (BB a ((a.alloc (.cells #[.int .i64 0,.slice none 0 0] 171)).alloc (.cells #[.slice y.a y.n y.cap] 168))):=aA;have b5:Hd (Calls _ _ _ _ _):=QJ u (a.heap.size+1) g _ bf;clear br aB aA bf;go_enter Tryz.func134,Tryz.ntmps134;go_wp2_with fail;refine b5.o.mono ?_;rintro e K ⟨aE,c5,F⟩;have a9:Hd (BB a K):=b1.o.trans (aE.below (by simp;omega) (fun i aO=>by omega));have a6:Hd (aj K a.heap.size 171 [.int .i64 0,.slice none 0 0]):=aj.of_block ba.o (aE.block _ (by simp;omega) (by omega));cases N:mj 1 (some g)with
 |none=>
  rw[N]at F;obtain rfl:e=mz:=F;have x:Hd (Xj g=none):=QZ (by rw[N];rfl);unfold mz;go_wp2;refine⟨rfl,a9.o,?_⟩;rw[x.o];rfl
 |some I=>
  rw[N]at F;obtain⟨rfl,bn⟩:=F;have cu:=zy (some g);have R:Hd (Nx a u (K.alloc (.cells #[.int .i64 (Fj (some g):Int),.slice none 0 0] 171)) (a.heap.size+1) K.heap.size (Fj (some g)) ⟨none,0,0⟩ [] [] I):=by
   have aC:Below K.heap.size K (K.alloc (.cells #[.int .i64 (Fj (some g):Int),.slice none 0 0] 171)):=tO;exact⟨a9.o.trans (aC.mono a9.o.size),bn.below aC,aj.new K _ _,aj.below a6.o a6.o.lt aC,lz.nil _ _ _ _,by omega,a6.o.lt,a5.o⟩
  have b6:Hd (Calls _ _ _ _ _):=QJ u (a.heap.size+1) I _ R.o.rd;have cA:=zy (some I);have ar:Hd (¬(Fj (some g)<=6/\Fj (some I)<=60/\(Fj (some g)=0\/Fj (some I)≠0))->Xj g=none):=fun D=>eY rfl (by rw[N]) D;have ap:Hd (Fj (some g)<=6/\Fj (some I)<=60/\(Fj (some g)=0\/Fj (some I)≠0)->Xj g=(sq (Fj (some g)) (Fj (some I)) [] (mj 1 (some I))).map (fun f=>(Fj (some g),f))):=fun D=>by rw[cK rfl (by rw[N]) D,N]
  have bb:Hd (mj 1 (some I)=none->Xj g=none):=fun D=>QZ (by rw[N,D]);generalize Fj (some g)=d at*;have cC:a.heap.size<K.heap.size:=a6.o.lt;clear N bn aE c5 b5 a9 a6 ba b1;have a7:=R.o.pg.cell 0 (by simp);simp only[cN]at a7;by_cases ag:d<=6
  .have co:(d:Int)<=6:=by omega
   go_wp2_with (go_at_call 132;refine(Ev _).mono ?_;rintro e H ⟨rfl,aS⟩;subst aS);refine b6.o.mono ?_;rintro e H ⟨aI,c6,F⟩;cases a8:mj 1 (some I)with
   |none=>
    rw[a8]at F;obtain rfl:e=mz:=F;have x:Hd (Xj g=none):=bb.o a8;have P:Hd (BB a H):=R.o.be.trans (aI.below R.o.be.size (fun i aO=>by omega));unfold mz;go_wp2;refine⟨rfl,P.o,?_⟩;rw[x.o];rfl
   |some a0=>
    rw[a8]at F;obtain⟨rfl,bo⟩:=F;have ad:Hd (Nx a u H (a.heap.size+1) K.heap.size d ⟨none,0,0⟩ [] [] a0):=R.o.read aI bo;generalize Fj (some I)=j at*;have bA:Hd (d<=6/\j<=60/\(d=0\/j≠0)->Xj g=(sq d j [] (some a0)).map (fun f=>(d,f))):=by rw[a8]at ap;exact ap
    generalize K.heap.size=G at*;clear a8 bo aI c6 b6 R bb ap a7;have a7:=ad.o.pg.cell 0 (by simp);simp only[cN]at a7;by_cases ax:j<=60
    .have cm:(j:Int)<=60:=by omega
     by_cases aR:d=0\/j≠0
     .have au:Hd (Xj g=(sq d j [] (some a0)).map (fun f=>(d,f))):=bA.o ⟨ag,ax,aR⟩;have cg:Hd (d<=6/\j<=60):=⟨ag,ax⟩;go_upto_region 6 with(go_at_call 132;refine(Ev _).mono ?_;rintro e h ⟨rfl,v⟩;obtain rfl:H=h:=v.symm;clear v)
      go_cut [27] (fun ch cd=>cd=H)
      case first=>
       by_cases aP:j=0
       .have bk:d=0:=by omega
        subst aP;subst bk;go_wp2_with (go_at_call 132;refine(Ev _).mono ?_;rintro e h ⟨rfl,v⟩;obtain rfl:H=h:=v.symm;clear v);go_meet
        case rel=>rfl
       .have cv:(0:Int)<j:=by omega
        go_wp2_with (go_at_call 132;refine(Ev _).mono ?_;rintro e h ⟨rfl,v⟩;obtain rfl:H=h:=v.symm;clear v);go_meet
        case rel=>rfl
      case rest=>
       obtain rfl:H=wc:=hcut.symm;clear hcut a7 aR;go_wp2
       go_loopw [6,7,29] (fun bP _ aT wr=>∃(i:Nat) (O:dj) (A:dj) (z:List Pj) (f:List ej) (L:List UInt8),i<=j/\aT=.int .i64 i/\bP=.slice O.a O.n O.cap/\Hd (Nx a u wr (a.heap.size+1) G d A z f L)/\Hd (f.length=i)/\Hd (Cq wr u O (Yx f))/\Hd (sq d (j - i) f (some L)=sq d j [] (some a0))) (fun _ _ aT _=>j - (intOf aT).toNat)
       case atStart=>exact⟨0,⟨none,0,0⟩,⟨none,0,0⟩,[],[],a0,by omega,by simp,rfl,ad,rfl,Cq.nil _ _,rfl⟩
       case round=>
        obtain⟨i,O,A,z,f,L,aO,rfl,rfl,B,b4,bE,aa⟩:=hrel;have bd:=B.o.pg.cell 0 (by simp);have af:=B.o.pg.cell 1 (by simp);simp only[cN,gN,dj.val]at bd af;have cr:(i:Int)<=60:=by omega
        by_cases c0:i<j
        .have ct:(i:Int)<j:=by omega
         have b3:Hd (Calls _ _ _ _ _):=cF u (a.heap.size+1) d L wr B.o.rd (fun w M=>qN (a5.o w M) B.o.be.size) ag;go_wp2_with fail;refine b3.o.mono ?_;rintro e h ⟨al,F⟩;have T:=mL d (j - (i+1)) f L;rw[show j - (i+1)+1=j - i by omega]at T;cases ah:Xx d L with
         |none=>
          rw[ah]at F T;obtain rfl:e=mz:=F;have x:Hd (Xj g=none):=by unfold Hd;rw[au.o,<-aa.o,T];rfl
          have bv:Hd (BB a h):=B.o.be.trans (al.below B.o.be.size (fun i aO=>by omega));clear T;unfold mz;go_wp2;refine⟨rfl,bv.o,?_⟩;rw[x.o];rfl
         |some w=>
          obtain⟨⟨E,U⟩,V⟩:=w;rw[ah]at F T;obtain⟨ce,rfl,aD,bp⟩:=F;have bh:=oL ah;have ae:Hd (Nx a u h (a.heap.size+1) G d A z f V):=B.o.read al bp;have bi:∀w,u w->¬w=a.heap.size+1:=fun w M e=>by have:=a5.o w M;omega
          have b2:Hd (Cq h u O (Yx f)):=bE.o.frame al bi;obtain⟨b,c,bR⟩:=ce;obtain⟨l,m,n,o,q,r,s,t,rfl⟩:=uj bR aD.d8;have bg:(qv ⟨b,c,[l,m,n,o,q,r,s,t]⟩).toArray=(xO b c l m n o q r s t):=rfl;rw[bg];have ai:Below h.heap.size h (h.alloc (.cells (xO b c l m n o q r s t) 74)):=tO;have Q:Hd (Nx a u (h.alloc (.cells (xO b c l m n o q r s t) 74)) (a.heap.size+1) G d A z f V):=ae.o.below ai;have bu:Hd (Cq (h.alloc (.cells (xO b c l m n o q r s t) 74)) u O (Yx f)):=b2.o.below ai;have b7:Hd (pJ d (h.alloc (.cells (xO b c l m n o q r s t) 74)) u ⟨b,c,[l,m,n,o,q,r,s,t]⟩ E U):=aD.frame (bj.of_below_all (S:=fun _=>False) ai) (fun _ _ e=>e);have Y:Hd (aj (h.alloc (.cells (xO b c l m n o q r s t) 74)) h.heap.size 74 [.slice b.a b.n b.cap,.slice c.a c.n c.cap,.int .u8 l.toNat,.int .u8 m.toNat,.int .u8 n.toNat,.int .u8 o.toNat,.int .u8 q.toNat,.int .u8 r.toNat,.int .u8 s.toNat,.int .u8 t.toNat]):=aj.new h _ _;have ac:Hd (sq d (j - i) f (some L)=if Op.bytesLess (Yx f) E=true then sq d (j - (i+1)) (f++[⟨E,U,0⟩]) (some V)else none):=by unfold Hd;rw[T];simp only[mK bh.1]
          have cD:G<h.heap.size:=ae.o.pg.lt;have bD:Hd (∀w,A.val.ownBlock=some w->w<h.heap.size):=fun w M=>(ae.o.ens.own.lt w M).2;clear ah aD bp bh T al ae bi b2 bg ai bd af b3;go_upto_region 11 with fail;generalize h.alloc (.cells (xO b c l m n o q r s t) 74)=C at*;generalize h.heap.size=be at*;have ao:Hd (Calls _ _ _ _ _):=Hv O b (Yx f) E C bu.o.bs b7.o.key.bs;have ab:=Tx (Yx f) E;have cf:=aw (Yx f) E;generalize Lib.compareBytes (Yx f) E=av at*;unfold dj.val at ao;have b0:=Y.o.cell 0 (by simp);simp only[cN]at b0;by_cases a2:Op.bytesLess (Yx f) E=true
          .have bS:av<0:=ab.2 a2;have bC:Hd (sq d (j - (i+1)) (f++[⟨E,U,0⟩]) (some V)=sq d j [] (some a0)):=by unfold Hd;rw[<-aa.o,ac.o,if_pos a2]
           clear ab a2 ac;go_upto_region 12 with(first
            |(go_at_call 63;refine ao.o.mono ?_;rintro e W ⟨rfl,J⟩;obtain rfl:C=W:=J.symm;clear J)
            |(go_at_call 132;refine(Ev _).mono ?_;rintro e W ⟨rfl,J⟩;obtain rfl:C=W:=J.symm;clear J))
           have af:=Q.o.pg.cell 1 (by simp);simp only[cN,gN,dj.val]at af;have a4:Hd (BB C (C.alloc (.cells (xO b c l m n o q r s t) 74))):=tO;have X:Hd (Nx a u (C.alloc (.cells (xO b c l m n o q r s t) 74)) (a.heap.size+1) G d A z f V):=Q.o.below a4.o;have b8:Hd (pJ d (C.alloc (.cells (xO b c l m n o q r s t) 74)) u ⟨b,c,[l,m,n,o,q,r,s,t]⟩ E U):=b7.o.frame (bj.of_below_all (S:=fun _=>False) a4.o) (fun _ _ e=>e);have bc:Hd (z.length<=60):=by unfold Hd;rw[Q.o.ens.len,b4.o];omega
           have bI:Hd (jj (C.alloc (.cells (xO b c l m n o q r s t) 74)) (some ⟨C.heap.size,0,none⟩) [.slice b.a b.n b.cap,.slice c.a c.n c.cap,.int .u8 l.toNat,.int .u8 m.toNat,.int .u8 n.toNat,.int .u8 o.toNat,.int .u8 q.toNat,.int .u8 r.toNat,.int .u8 s.toNat,.int .u8 t.toNat]):=jj.alloc_new C _ _;have bs:Hd (∀cc∈([.slice b.a b.n b.cap,.slice c.a c.n c.cap,.int .u8 l.toNat,.int .u8 m.toNat,.int .u8 n.toNat,.int .u8 o.toNat,.int .u8 q.toNat,.int .u8 r.toNat,.int .u8 s.toNat,.int .u8 t.toNat]:List Value),cc.oneCell'=true):=dJ ⟨b,c,[l,m,n,o,q,r,s,t]⟩;have bO:Hd (a.heap.size<=(C.alloc (.cells (xO b c l m n o q r s t) 74)).heap.size):=X.o.be.size;have bB:Hd (Cq (C.alloc (.cells (xO b c l m n o q r s t) 74)) u b E):=b8.o.key;go_wp2_with (first
            |(refine wpList_load_mid (by rfl) 74 (.tmp 7) (by rfl) be 0 (by rfl) [.slice b.a b.n b.cap,.slice c.a c.n c.cap,.int .u8 l.toNat,.int .u8 m.toNat,.int .u8 n.toNat,.int .u8 o.toNat,.int .u8 q.toNat,.int .u8 r.toNat,.int .u8 s.toNat,.int .u8 t.toNat] _ Y.o.range Tryz.underlying74 rfl Tryz.sizeEntryB ?_)
            |(at_builtin;refine rq (by rfl) (.tmp 41) (.tmp 43) 67 (by rfl) a.heap.size 74 _ 10 56 Tryz.underlying67 Tryz.infoEntry rfl (by decide) (.slice A.a A.n A.cap) z.length (Sj z) (by rfl) X.o.ens.own (some ⟨C.heap.size,0,none⟩) 1 1 [.slice b.a b.n b.cap,.slice c.a c.n c.cap,.int .u8 l.toNat,.int .u8 m.toNat,.int .u8 n.toNat,.int .u8 o.toNat,.int .u8 q.toNat,.int .u8 r.toNat,.int .u8 s.toNat,.int .u8 t.toNat] (by rfl) rfl bI.o (fun D=>by cases D) bs.o (by have:=bc.o;unfold maxLen;omega) (by have:=bc.o;omega) bO.o ?_;intro cI a3 bl am cp;obtain⟨Z,a1,c3,_⟩:=Nj bl;subst c3;have bm:aj a3 G 171 [.int .i64 d,.slice A.a A.n A.cap]:=aj.of_block X.o.pg (am.block _ X.o.pg.lt (fun e=>xj X.o.ens.own X.o.pg (by decide) e));have cE:=bm.cell 1 (by simp);have ci:=bm.frozen 1;have c4:aj a3 be 74 [.slice b.a b.n b.cap,.slice c.a c.n c.cap,.int .u8 l.toNat,.int .u8 m.toNat,.int .u8 n.toNat,.int .u8 o.toNat,.int .u8 q.toNat,.int .u8 r.toNat,.int .u8 s.toNat,.int .u8 t.toNat]:=aj.of_block (aj.below Y.o Y.o.lt a4.o) (am.block _ (aj.lt (aj.below Y.o Y.o.lt a4.o)) (fun e=>by have:=bD.o _ e;omega));have b0:=c4.cell 0 (by simp);simp only[cN]at b0))
           have c1:Hd (Nx a u (a3.setCell ⟨G,1,none⟩ (.slice Z (z.length+1) a1)) (a.heap.size+1) G d ⟨Z,z.length+1,a1⟩ (z++[⟨b,c,[l,m,n,o,q,r,s,t]⟩]) (f++[⟨E,U,0⟩]) V):=Nx.push (cur':=⟨Z,z.length+1,a1⟩) (it:=⟨E,U,0⟩) Q.o a4.o b8.o bl am;have bT:bj (fun i=>i=G) a3 (a3.setCell ⟨G,1,none⟩ (.slice Z (z.length+1) a1)):=(bj.refl (fun i=>i=G) _).setCell (p:=⟨G,1,none⟩) rfl _;have c2:Cq (a3.setCell ⟨G,1,none⟩ (.slice Z (z.length+1) a1)) u b E:=(bB.o.frame am (fun w M e=>by have:=(Q.o.ens.own.lt w e).1;have:=a5.o w M;omega)).frame bT (fun w M e=>by have:=a5.o w M;have:=Q.o.n2;omega);refine⟨⟨i+1,b,⟨Z,z.length+1,a1⟩,z++[⟨b,c,[l,m,n,o,q,r,s,t]⟩],f++[⟨E,U,0⟩],V,c0,by go_num,rfl,c1,by unfold Hd;rw[XM,b4.o];rfl,?_,bC⟩,by simp[intOf];omega⟩;unfold Hd;rw[dF];exact c2
          .have bS:decide (av<0)=false:=by have:¬av<0:=fun D=>a2 (ab.1 D);simp;omega
           have x:Hd (Xj g=none):=by unfold Hd;rw[au.o,<-aa.o,ac.o,if_neg a2];rfl
           clear ab a2 ac;go_wp2_with (first
            |(go_at_call 63;refine ao.o.mono ?_;rintro e W ⟨rfl,J⟩;obtain rfl:C=W:=J.symm;clear J)
            |(go_at_call 132;refine(Ay _).mono ?_;rintro e W ⟨rfl,J⟩;obtain rfl:C=W:=J.symm;clear J;unfold mz))
           refine⟨rfl,Q.o.be,?_⟩;rw[x.o];rfl
        .obtain rfl:i=j:=by omega
         have bw:Hd (Calls _ _ _ _ _):=kK u (a.heap.size+1) L wr B.o.rd;have b9:Hd (Xj g=(if L=[]then some f else none).map (fun f=>(d,f))):=by
          unfold Hd;rw[au.o,<-aa.o,Aaj];simp[sq]
         go_wp2_with fail;refine bw.o.mono ?_;rintro e h ⟨v,ak⟩;obtain rfl:wr=h:=v.symm;clear v;by_cases an:L=[]
         .rw[if_pos an]at ak;subst ak;have x:Hd (Xj g=some (d,f)):=by unfold Hd;rw[b9.o,if_pos an];rfl
          have c7:=B.o.qg.cell 0 (by simp);have c8:=B.o.qg.cell 1 (by simp);have cj:=B.o.qg.frozen 0;have ck:=B.o.qg.frozen 1;simp only[cN,gN]at c7 c8;have cB:G≠a.heap.size:=by have:=B.o.n2;omega
          go_wp2;obtain⟨c9,ca,cb⟩:=B.o.fin;refine Cv (k:=2) (cs:=[.int .i64 d,.slice A.a A.n A.cap]) rfl rfl c9 Tryz.underlying171 rfl Tryz.sizePgP rfl ⟨ca,?_⟩;rw[x.o];exact⟨A,z,rfl,cb⟩
         .rw[if_neg an]at ak;obtain rfl:e=mz:=ak;have x:Hd (Xj g=none):=by unfold Hd;rw[b9.o,if_neg an];rfl
          unfold mz;go_wp2;refine⟨rfl,B.o.be,?_⟩;rw[x.o];rfl
     .have x:Hd (Xj g=none):=ar.o (fun D=>aR D.2.2);have aP:j=0:=by omega
      have bk:((d:Int)==0)=false:=by simp;omega
      subst aP;have P:Hd (BB a H):=ad.o.be;go_wp2_with (go_at_call 132;first|(refine(Ev _).mono ?_;rintro e h ⟨rfl,v⟩;obtain rfl:H=h:=v.symm;clear v)|(refine(Ay _).mono ?_;rintro e h ⟨rfl,v⟩;obtain rfl:H=h:=v.symm;clear v;unfold mz));refine⟨rfl,P.o,?_⟩;rw[x.o];rfl
    .have cl:decide ((j:Int)<=60)=false:=by simp;omega
     have x:Hd (Xj g=none):=ar.o (fun D=>ax D.2.1);have P:Hd (BB a H):=ad.o.be;go_wp2_with (go_at_call 132;refine(Ay _).mono ?_;rintro e h ⟨rfl,v⟩;obtain rfl:H=h:=v.symm;clear v;unfold mz);refine⟨rfl,P.o,?_⟩;rw[x.o];rfl
  .have cn:decide ((d:Int)<=6)=false:=by simp;omega
   have x:Hd (Xj g=none):=ar.o (fun D=>ag D.1);have P:=R.o.be;go_wp2_with (go_at_call 132;refine(Ay _).mono ?_;rintro e H ⟨rfl,aS⟩;subst aS;unfold mz);refine⟨rfl,P,?_⟩;rw[x.o];rfl
end
end Go.Proofs.YtekegfbjbainhaaGreat
