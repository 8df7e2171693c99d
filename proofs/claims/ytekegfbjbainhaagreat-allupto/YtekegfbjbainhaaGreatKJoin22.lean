import Derived.Test.YtekegfbjbainhaaGreatKJoin21
import Derived.Deep.CutBlock
set_option maxRecDepth 100000
set_option maxHeartbeats 4000000
set_option linter.unusedVariables false
set_option linter.unusedSimpArgs false
namespace Go.Proofs.YtekegfbjbainhaaGreat
open Go.RowKit
section
attribute [local go_sem↓] Go.wp_at_zero Go.wp_at_succ
def vk(d a c:List UInt8):Nat×Option (List UInt8):=
 if Zj a=true then(match nw d a c with
  |none=>(5,none)
  |some b=>(0,b))else(1,none)
theorem Tryz.sizeAnswer:(Tryz.prog.info? 49).map (·.size)=some 2:=by kernel_rfl
def Oq(c:dj)(b:Nat):Prop:=∃a,c.a=some a/\a.block=b
def KV(c:World)(a:Nat×Option (List UInt8))(e:Ending)(d:World):Prop:=∃b:dj,e=.returned (.tuple #[.agg #[.bool a.2.isSome,b.val],.int .i64 (a.1:Int)])/\Below c.heap.size c d/\BS d b (a.2.getD [])
structure Dz(W wr:World)(K:Nat->Prop)(rb pb lvl:Nat)(cur:dj)(o:Option (List UInt8)):Prop where
 be:Below W.heap.size W wr
 rd:rz wr K rb o
 pg:aj wr pb 80 [.int .i64 lvl,cur.val]
 n1:W.heap.size<=rb
 n2:W.heap.size<=pb
 kk:∀k,K k->k<W.heap.size
theorem Dz.ne{e wr:World}{d:Nat->Prop}{c b g:Nat}{f:dj}{h:Option (List UInt8)}(a:Dz e wr d c b g f h):b≠c:=a.rd.rowNe a.pg (by decide)
theorem Dz.below{d wr w':World}{c:Nat->Prop}{i h f:Nat}{e:dj}{g:Option (List UInt8)}(a:Dz d wr c i h f e g)(b:Below wr.heap.size wr w'):Dz d w' c i h f e g:=
 ⟨a.be.trans (b.mono a.be.size),a.rd.below b,a.pg.below a.pg.lt b,a.n1,a.n2,a.kk⟩
theorem Dz.read{e wr d:World}{c:Nat->Prop}{b k i:Nat}{f:dj}{n j:Option (List UInt8)}(a:Dz e wr c b k i f n)(g:bj (fun h=>h=b) wr d)(m:rz d c b j):Dz e d c b k i f j:=
 ⟨a.be.trans (g.below a.be.size (fun h o=>by have:=a.n1;omega)),m,aj.of_block a.pg (g.block _ a.pg.lt (fun l=>a.ne l)),a.n1,a.n2,a.kk⟩
theorem Dz.bad{c wr:World}{b:Nat->Prop}{a g f:Nat}{d:dj}{i:Option (List UInt8)}(e:Dz c wr b a g f d i):Dz c (wr.setCell ⟨a,1,none⟩ (.bool true)) b a g f d none:=
 e.read ((bj.refl (fun h=>h=a) _).setCell (p:=⟨a,1,none⟩) rfl _) e.rd.bad
theorem Dz.put{f wr:World}{e:Nat->Prop}{j a l lvl':Nat}{k cur':dj}{i:Option (List UInt8)}(b:Dz f wr e j a l k i):Dz f ((wr.setCell ⟨a,0,none⟩ (.int .i64 (lvl':Int))).setCell ⟨a,1,none⟩ cur'.val) e j a lvl' cur' i/\bj (fun c=>c=a) wr ((wr.setCell ⟨a,0,none⟩ (.int .i64 (lvl':Int))).setCell ⟨a,1,none⟩ cur'.val):=by
 have d:bj (fun c=>c=a) wr ((wr.setCell ⟨a,0,none⟩ (.int .i64 (lvl':Int))).setCell ⟨a,1,none⟩ cur'.val):=((bj.refl (fun c=>c=a) wr).setCell (p:=⟨a,0,none⟩) rfl _).setCell (p:=⟨a,1,none⟩) rfl _;exact⟨⟨b.be.trans (d.below b.be.size (fun c h=>by have:=b.n2;omega)),b.rd.frame d (fun g=>b.ne g.symm) (fun c h g=>by have:=b.kk c h;have:=b.n2;omega),by simpa using(aj.set b.pg 0 (.int .i64 (lvl':Int))).set 1 cur'.val,b.n1,b.n2,b.kk⟩,d⟩
def LV(f wr:World)(h:List UInt8)(b:Option ((Nat×List ej)×List UInt8))(c:Nat)(g:dj)(d:Option (List UInt8)):Prop:=
 (d=none/\b=none)\/∃e a,d=some e/\Hx c a/\jz wr f.heap.size g.val a/\b=mw h c a e
def IM(f wr:World)(b:Option ((Nat×List ej)×List UInt8))(c:Nat)(g:dj)(d:Option (List UInt8)):Prop:=
 (d=none/\b=none)\/∃e a,d=some e/\Hx c a/\jz wr f.heap.size g.val a/\b=some ((c,a),e)
def jL(d c:Nat)(a:World):Nat:=match a.cell? ⟨d,1,none⟩,a.cell? ⟨c,0,none⟩with
 |some (.bool false),some (.int _ b)=>b.toNat+1
 |_,_=>0
theorem Dz.meas{h wr:World}{g:Nat->Prop}{c b a:Nat}{i:dj}{f:Option (List UInt8)}(e:Dz h wr g c b a i f):jL c b wr=if f.isSome=true then a+1 else 0:=by
 obtain⟨o,n,d,m,j⟩:=e.rd;have k:wr.cell? ⟨c,1,none⟩=some (.bool d):=aj.cell m.row 1 (by simp);have l:wr.cell? ⟨b,0,none⟩=some (.int .i64 a):=aj.cell e.pg 0 (by simp);unfold jL;rw[k,l,j];cases d<;>simp
theorem XU(D i:dj)(h F bh:List UInt8)(d:World)(cA:bh.length=8)(C:BS d D h)(cu:BS d i F)(cv:i.n<=i.cap)(cm:h.length<=maxLen):
  CP 17 #[dV bh,D.val,i.val] d (KV d (vk bh h F)):=by
 obtain⟨q,r,t,u,v,w,x,y,rfl⟩:=uj bh cA;have ce:Below d.heap.size d ((d.alloc (.cells (cO q r t u v w x y) 36)).alloc (.cells #[.bool false,.slice none 0 0] 49)):=tO.alloc (by simp) _;have ai:Hd (Calls _ _ _ _ _):=yq D.a D.n D.cap ((d.alloc (.cells (cO q r t u v w x y) 36)).alloc (.cells #[.bool false,.slice none 0 0] 49)) (by rw[C.n];exact cm);have cl:(decide (1<=D.n)&&decide (D.n<=12))=Zj h:=by rw[C.n];rfl
 rw[cl]at ai;have cg:dV [q,r,t,u,v,w,x,y]=.agg (cO q r t u v w x y):=rfl;rw[cg];unfold dj.val;have cI:Hd (BS d D h):=C;have bo:Hd (BS d i F):=cu;have c4:Hd (i.n<=i.cap):=cv;have ag:Hd (BB d _):=ce;clear C cu cv cm cl cg cA ce;cases bf:Zj h with
 |false=>
  rw[bf]at ai;have ak:Hd (vk [q,r,t,u,v,w,x,y] h F=(1,none)):=by unfold Hd vk;rw[if_neg (by rw[bf];simp)]
  rw[ak.o];go_enter Tryz.func17,Tryz.ntmps17;go_wp2_with (go_at_call 31;refine ai.o.mono ?_;rintro j dA ⟨rfl,bI⟩;subst bI);exact Lq (k:=6) (k2:=7) (cs:=[.bool false,.slice none 0 0]) rfl rfl rfl (aj.new_at _ _ _ _ (by simp)) Tryz.underlying49 rfl Tryz.sizeAnswer rfl ⟨⟨none,0,0⟩,rfl,ag.o,(Cq.nil _ (fun _=>False)).bs⟩
 |true=>
  rw[bf]at ai;obtain⟨B,bC⟩:∃B,vk [q,r,t,u,v,w,x,y] h F=B:=⟨_,rfl⟩;rw[bC];have ak:Hd (B=(match nw [q,r,t,u,v,w,x,y] h F with
   |none=>(5,none)
   |some d3=>(0,d3))):=by unfold Hd;rw[<-bC];unfold vk;rw[if_pos bf]
  clear bC;go_enter Tryz.func17,Tryz.ntmps17;go_upto_region 4 with(go_at_call 31;refine ai.o.mono ?_;rintro j dA ⟨rfl,bI⟩;subst bI);have bS:Hd (aj ((d.alloc (.cells (cO q r t u v w x y) 36)).alloc (.cells #[.bool false,.slice none 0 0] 49)) d.heap.size 36 ([q,r,t,u,v,w,x,y].map fj)):=(aj.new d 36 ([q,r,t,u,v,w,x,y].map fj)).alloc _;have bP:Hd (aj ((d.alloc (.cells (cO q r t u v w x y) 36)).alloc (.cells #[.bool false,.slice none 0 0] 49)) (d.heap.size+1) 49 [.bool false,.slice none 0 0]):=aj.new_at _ _ _ _ (by simp);have dC:Hd (((d.alloc (.cells (cO q r t u v w x y) 36)).alloc (.cells #[.bool false,.slice none 0 0] 49)).heap.size=d.heap.size+2):=by unfold Hd;simp
  clear ai;generalize (d.alloc (.cells (cO q r t u v w x y) 36)).alloc (.cells #[.bool false,.slice none 0 0] 49)=c at*;have bd:Below c.heap.size c (c.alloc (.cells #[.slice i.a i.n i.cap,.bool false] 77)):=tO;have cf:=aj.below bS.o bS.o.lt bd;have aP:=wj (P:=Tryz.prog) (c.alloc (.cells #[.slice i.a i.n i.cap,.bool false] 77)) 38 9 5 (some ⟨d.heap.size,0,none⟩) 8 8 [q,r,t,u,v,w,x,y] Tryz.underlying38 Tryz.underlying5 Tryz.underlying9 rfl (jq.of_row cf) (fun o=>by cases o);have bc:∀b,Oq i b->b<c.heap.size:=fun b ⟨Q,a6,l⟩=>by have:=bo.o.lt Q a6;have:=ag.o.size;omega
  have N:rz (c.alloc (.cells #[.slice i.a i.n i.cap,.bool false] 77)) (Oq i) c.heap.size (some F):=
   ⟨i,F,false,⟨aj.new c _ _,⟨(bo.o.below ag.o).below bd,c4.o,fun Q a6=>⟨Q,a6,rfl⟩⟩,fun l=>by have:=bc _ l;omega⟩,rfl⟩
  have c5:Hd (Calls _ _ _ _ _):=yJ (Oq i) c.heap.size (some F) [q,r,t,u,v,w,x,y] _ N (fun b C=>by have:=bc b C;simp;omega);have cP:Hd (∀b,Oq i b->b<c.heap.size):=bc;have bR:Hd (BB c _):=bd;clear cf bd N bc c4 bo;go_wp2_with fail;refine c5.o.mono ?_;rintro l U ⟨e,f,rfl,am,bv,cC,cr⟩;have a4:Below c.heap.size c U:=bR.o.trans (bv.below (by simp) (fun b C=>by omega));have be:Below U.heap.size U (U.alloc (.cells #[.int .i64 e,f.val] 80)):=tO;have aA:Hd (Dz c (U.alloc (.cells #[.int .i64 e,f.val] 80)) (Oq i) c.heap.size U.heap.size e f ((Wq (some F) [q,r,t,u,v,w,x,y]).map (·.2))):=
   ⟨a4.trans (be.mono a4.size),cC.below be,aj.new U _ _,TM _,a4.size,cP.o⟩
  obtain⟨L,bu⟩:∃L,L=(match Wq (some F) [q,r,t,u,v,w,x,y]with
   |none=>none
   |some ((a8,a),j)=>mw h a8 a j):=⟨_,rfl⟩
  have c9:Hd (nw [q,r,t,u,v,w,x,y] h F=WU h L):=by
   unfold Hd nw;rw[bu];cases Wq (some F) [q,r,t,u,v,w,x,y]with
   |none=>rfl
   |some B=>rfl
  have au:Hd (LV c (U.alloc (.cells #[.int .i64 e,f.val] 80)) h L e f ((Wq (some F) [q,r,t,u,v,w,x,y]).map (·.2))):=by
   unfold Hd LV;rw[bu];cases l:Wq (some F) [q,r,t,u,v,w,x,y]with
   |none=>exact SM ⟨rfl,rfl⟩
   |some B=>
    obtain⟨⟨a8,a⟩,j⟩:=B;obtain⟨rfl,A⟩:=cr a8 a j l;exact RM ⟨j,a,rfl,ry l,Hj (lj A be) (fun b C=>by have:=(A.lt b C).1;simp at this;omega),rfl⟩
  rw[c9.o]at ak;generalize ((Wq (some F) [q,r,t,u,v,w,x,y]).map (·.2))=dr at*;have ed:c.heap.size<U.heap.size:=by have:=bv.size;simp at this;omega
  clear bv cC cr a4 be bu c5 bR aP c9;unfold dj.val at aA au⊢
  go_upto_block 0 with fail
  generalize U.alloc (.cells #[.int .i64 e,.slice f.a f.n f.cap] 80)=dD at*;generalize U.heap.size=z at*;have c0:Hd (BS d D h):=cI
  go_cut [] (fun O=>∃(e:Nat) (f:dj) (S:Option (List UInt8)),e<256/\Hd (Dz c O (Oq i) c.heap.size z e f S)/\Hd (IM c O L e f S))
  case first=>
   go_wp2_with fail
   go_loopw [11,12] (fun _ _ wr=>∃(e:Nat) (f:dj) (S:Option (List UInt8)),e<256/\Hd (Dz c wr (Oq i) c.heap.size z e f S)/\Hd (LV c wr h L e f S)) (fun _ _ wr=>jL c.heap.size z wr)
   case atStart=>exact⟨e,f,dr,am,aA,au⟩
   case round=>
    obtain⟨e,f,S,am,E,b2⟩:=hrel;obtain⟨a9,aT,aC,N,A⟩:=E.o.rd;have du:wr.cell? ⟨c.heap.size,1,none⟩=some (.bool aC):=aj.cell N.row 1 (by simp);have R:=E.o.pg.cell 0 (by simp);have M:=E.o.pg.cell 1 (by simp);simp only[cN,gN,dj.val]at R M;cases aC with
    |true=>
     have ah:Hd (IM c wr L e f S):=by
      rcases b2.o with o|⟨j,a,o,_⟩
      .exact SM o
      .rw[o]at A;simp at A
     clear aA au b2 N A;go_wp2_with fail;go_meet
     case rel=>exact⟨e,f,S,am,E,ah⟩
    |false=>
     obtain⟨j,a,df,a2,aa,a3⟩:∃j a,S=some j/\Hd (Hx e a)/\Hd (jz wr c.heap.size f.val a)/\Hd (L=mw h e a j):=by
      rcases b2.o with⟨o,_⟩|o
      .rw[o]at A;simp at A
      .exact o
     subst df;clear aA au b2 A N;by_cases bg:e=0
     .subst bg;go_wp2_with fail;go_meet
      case rel=>exact⟨0,f,some j,am,E,RM ⟨j,a,rfl,a2.o,aa.o,a3.o⟩⟩
     .have e4:(0:Int)<e:=by omega
      obtain⟨aS,al⟩:=jj.ofOwn (s:=f) aa.o;have Z:BS wr D h:=(c0.o.below ag.o).below E.o.be;have aP:=wj (P:=Tryz.prog) wr 38 9 5 D.a D.n D.cap h Tryz.underlying38 Tryz.underlying5 Tryz.underlying9 Z.n Z.sl Z.nil;have b5:Hd (Calls _ _ _ _ _):=UX e f.a f.cap a h wr (by have:=a2.o.len;omega) aS;rw[<-al]at b5;unfold Hz at b5;have a1:Hd (f.n=a.length):=al;clear aS Z al;go_wp2_with fail;refine b5.o.mono ?_;rintro l bi ⟨rfl,aI⟩;have K:Hd (Dz c bi (Oq i) c.heap.size z e f (some j)):=E.o.below aI;have bA:jz bi c.heap.size f.val a:=lj aa.o aI;have cT:Hd (jz bi c.heap.size f.val a):=bA;have R:=K.o.pg.cell 0 (by simp);have M:=K.o.pg.cell 1 (by simp);simp only[cN,gN,dj.val]at R M;have dh:=Ky a h;have c1:Hd (a.length<=60):=a2.o.len;by_cases a0:pj a h<a.length
      .have co:=(jj.ofOwn (s:=f) bA).1;obtain⟨aD,b0,aO,da,bk,af,bl⟩:=Aq.cells co _ a0;unfold Hz at af;have bT:Hd ((a.getD (pj a h) BQ).more=a[pj a h].more):=by unfold Hd;rw[iaj,UM a0];rfl
       have c6:Hd (Calls _ _ _ _ _):=yJ (Oq i) c.heap.size (some j) a[pj a h].more bi K.o.rd (fun b C=>qN (K.o.kk b C) K.o.be.size);have c8:Hd (L=match Wq (some j) a[pj a h].more with
         |none=>none
         |some ((a7,ac),T)=>if a7+1=e then mw h a7 ac T else none):=by
        unfold Hd;obtain⟨an,rfl⟩:∃an,e=an+1:=⟨e - 1,by omega⟩;rw[a3.o,mw,if_pos a0,bT.o];cases Wq (some j) a[pj a h].more with
        |none=>rfl
        |some B=>
         obtain⟨⟨a7,ac⟩,T⟩:=B;simp only[Nat.add_right_cancel_iff];by_cases cn:a7=an
         .subst cn;simp
         .simp[cn]
       generalize a[pj a h].more=n at*;generalize di:pj a h=cD at*;have ec:(cD:Int)<f.n:=by rw[a1.o];omega
       have dg:((cD:Int)==f.n)=false:=by simp;rw[a1.o];omega
       obtain⟨d7,bb,ba⟩:=f;simp only at aO;subst aO;clear di a0 dh bT co bA aI b5 aP bk bl a1 aa a3;go_wp2_with fail;refine c6.o.mono ?_;rintro l I ⟨m,g,rfl,cp,cj,cB,ct⟩;have b6:Hd (Dz c I (Oq i) c.heap.size z e ⟨some ⟨aD,b0,none⟩,bb,ba⟩ ((Wq (some j) n).map (·.2))):=K.o.read cj cB;have a4:Below I.heap.size I (I.alloc (.cells #[.int .i64 m,.slice g.a g.n g.cap] 80)):=tO;have W:Hd (Dz c (I.alloc (.cells #[.int .i64 m,.slice g.a g.n g.cap] 80)) (Oq i) c.heap.size z e ⟨some ⟨aD,b0,none⟩,bb,ba⟩ ((Wq (some j) n).map (·.2))):=b6.o.below a4;have bD:aj (I.alloc (.cells #[.int .i64 m,.slice g.a g.n g.cap] 80)) I.heap.size 80 [.int .i64 m,.slice g.a g.n g.cap]:=aj.new I _ _;have c3:Hd (∀(a8:Nat) (a:List ej) (T:List UInt8),Wq (some j) n=some ((a8,a),T)->m=a8/\jz (I.alloc (.cells #[.int .i64 m,.slice g.a g.n g.cap] 80)) c.heap.size g.val a):=fun a8 a T l=>by
        obtain⟨d8,o⟩:=ct a8 a T l;exact⟨d8,Hj (lj o a4) (fun b C=>WM K.o.be.size (o.lt b C).1)⟩
       have dm:I.heap.size<(I.alloc (.cells #[.int .i64 m,.slice g.a g.n g.cap] 80)).heap.size:=by simp
       have eb:z<I.heap.size:=b6.o.pg.lt;have ef:c.heap.size<I.heap.size:=b6.o.rd.lt;clear cj cB ct c6 a4 K b6 R M af;unfold dj.val;go_upto_region 10 with fail;generalize I.alloc (.cells #[.int .i64 m,.slice g.a g.n g.cap] 80)=aB at*;generalize I.heap.size=cE at*;have R:=W.o.pg.cell 0 (by simp);have M:=W.o.pg.cell 1 (by simp);have dP:=W.o.pg.frozen 0;have dR:=W.o.pg.frozen 1;have ds:=bD.cell 0 (by simp);have dt:=bD.cell 1 (by simp);obtain⟨ek,eg,d6,bE,de⟩:=W.o.rd;have dS:=bE.row.frozen 1;have ei:aB.cell? ⟨c.heap.size,1,none⟩=some (.bool d6):=aj.cell bE.row 1 (by simp);simp only[cN,gN,dj.val]at R M ds dt;have e8:=W.o.ne;have e9:cE≠z:=by omega
       have ea:cE≠c.heap.size:=by omega
       have e6:(e:Int)<256:=by omega
       clear bD bE de;by_cases ch:m+1=e
       .have dd:((m:Int)==(e:Int) - 1)=true:=by simp;omega
        have ax:Hd (Dz c ((aB.setCell ⟨z,0,none⟩ (.int .i64 m)).setCell ⟨z,1,none⟩ (.slice g.a g.n g.cap)) (Oq i) c.heap.size z m g ((Wq (some j) n).map (·.2))):=(Dz.put (lvl':=m) (cur':=g) W.o).1;have bn:Hd (LV c ((aB.setCell ⟨z,0,none⟩ (.int .i64 m)).setCell ⟨z,1,none⟩ (.slice g.a g.n g.cap)) h L m g ((Wq (some j) n).map (·.2))):=by
         unfold Hd LV;rw[c8.o];cases l:Wq (some j) n with
         |none=>exact SM ⟨rfl,rfl⟩
         |some B=>
          obtain⟨⟨a7,ac⟩,T⟩:=B;obtain⟨rfl,bB⟩:=c3.o a7 ac T l;refine RM ⟨T,ac,rfl,ry l,?_,?_⟩
          .exact ij bB (Dz.put (lvl':=m) (cur':=g) W.o).2 (fun b C l=>xj bB W.o.pg (by decide) (by rw[C,l]))
          .simp only[ch,if_true]
        go_wp2_with fail
        go_roundw
        case measure=>
         rw[ax.o.meas,E.o.meas];simp only[Option.isSome_some,if_true]
         split<;>omega
        case rel=>exact⟨m,g,_,cp,ax,bn⟩
       .have dd:((m:Int)==(e:Int) - 1)=false:=by simp;omega
        have ax:Hd (Dz c (((aB.setCell ⟨c.heap.size,1,none⟩ (.bool true)).setCell ⟨z,0,none⟩ (.int .i64 m)).setCell ⟨z,1,none⟩ (.slice g.a g.n g.cap)) (Oq i) c.heap.size z m g none):=(Dz.put (lvl':=m) (cur':=g) W.o.bad).1;have bn:Hd (LV c (((aB.setCell ⟨c.heap.size,1,none⟩ (.bool true)).setCell ⟨z,0,none⟩ (.int .i64 m)).setCell ⟨z,1,none⟩ (.slice g.a g.n g.cap)) h L m g none):=by
         refine SM ⟨rfl,?_⟩;rw[c8.o];cases l:Wq (some j) n with
         |none=>rfl
         |some B=>
          obtain⟨⟨a7,ac⟩,T⟩:=B;obtain⟨rfl,bB⟩:=c3.o a7 ac T l;simp only[if_neg ch]
        go_wp2_with fail
        go_roundw
        case measure=>
         rw[ax.o.meas,E.o.meas];simp
        case rel=>exact⟨m,g,_,cp,ax,bn⟩
      .have ee:pj a h=a.length:=by omega
       have d2:Hd (L=some ((e,a),j)):=by
        unfold Hd;obtain⟨an,rfl⟩:∃an,e=an+1:=⟨e - 1,by omega⟩;rw[a3.o,mw,if_neg a0]
       have dg:((pj a h:Int)==f.n)=true:=by simp;rw[a1.o];omega
       go_wp2_with fail;go_meet
       case rel=>exact⟨e,f,some j,am,K,RM ⟨j,a,rfl,a2.o,cT.o,d2.o⟩⟩
  case rest=>
   obtain⟨e,f,S,am,E,ah⟩:=hcut;clear aA au;obtain⟨a9,aT,aC,N,A⟩:=E.o.rd;have eh:wc.cell? ⟨c.heap.size,0,none⟩=some (.slice a9.a a9.n a9.cap):=aj.cell N.row 0 (by simp);have du:wc.cell? ⟨c.heap.size,1,none⟩=some (.bool aC):=aj.cell N.row 1 (by simp);have ca:Hd (a9.n=aT.length):=N.sub.bs.n;have V:Hd (aj wc (d.heap.size+1) 49 [.bool false,.slice none 0 0]):=aj.below bP.o bP.o.lt E.o.be;have b8:=V.o.cell 0 (by simp);have b9:=V.o.cell 1 (by simp);have cc:=V.o.frozen 0;have cd:=V.o.frozen 1;simp only[cN,gN]at b8 b9;have bm:Hd (BB d wc):=ag.o.trans (E.o.be.mono ag.o.size);have b4:Hd (∀(O:World) (ad ae:Value),BB wc O->aj ((O.setCell ⟨d.heap.size+1,0,none⟩ ad).setCell ⟨d.heap.size+1,1,none⟩ ae) (d.heap.size+1) 49 [ad,ae]/\Below d.heap.size d ((O.setCell ⟨d.heap.size+1,0,none⟩ ad).setCell ⟨d.heap.size+1,1,none⟩ ae)/\bj (fun b=>b=d.heap.size+1) O ((O.setCell ⟨d.heap.size+1,0,none⟩ ad).setCell ⟨d.heap.size+1,1,none⟩ ae)):=fun O ad ae a6=>by
    have ci:bj (fun b=>b=d.heap.size+1) O ((O.setCell ⟨d.heap.size+1,0,none⟩ ad).setCell ⟨d.heap.size+1,1,none⟩ ae):=((bj.refl (fun b=>b=d.heap.size+1) O).setCell (p:=⟨d.heap.size+1,0,none⟩) rfl _).setCell (p:=⟨d.heap.size+1,1,none⟩) rfl _;have Y:=bm.o.trans (a6.mono bm.o.size);exact⟨by simpa using(aj.set (aj.below V.o V.o.lt a6) 0 ad).set 1 ae,Y.trans (ci.below Y.size (fun b C=>by omega)),ci⟩
   cases aC with
   |true=>
    have br:Hd (B=(5,none)):=by
     unfold Hd;rw[ak.o];rcases ah.o with⟨_,o⟩|⟨j,a,o,_⟩
     .rw[o];rfl
     .rw[o]at A;simp at A
    clear N A ah;go_wp2;obtain⟨ab,X,aE⟩:=b4.o wc (.bool false) (.slice none 0 0) (VM _ _);exact Lq (k:=6) (k2:=7) (cs:=[.bool false,.slice none 0 0]) rfl rfl rfl ab Tryz.underlying49 rfl Tryz.sizeAnswer rfl (by rw[br.o];exact⟨⟨none,0,0⟩,rfl,X,(Cq.nil _ (fun _=>False)).bs⟩)
   |false=>
    obtain⟨a,a2,aa,a3⟩:∃a,Hd (Hx e a)/\Hd (jz wc c.heap.size f.val a)/\Hd (L=some ((e,a),aT)):=by
     rcases ah.o with⟨o,_⟩|⟨j,a,o,X,aE,d9⟩
     .rw[o]at A;simp at A
     .rw[o]at A;simp at A;subst A;exact⟨a,X,aE,d9⟩
    clear N A ah;by_cases dm:a9.n=0
    .have cb:Hd (aT=[]):=ZN.1 (by have:=ca.o;omega);have c7:Hd (B=(0,if e=0 then(a.find? (fun Q=>Q.key==h)).map (·.more)else none)):=by
      unfold Hd;rw[ak.o,a3.o,cb.o];rfl
     have dn:(a9.n:Int)=0:=by omega
     have R:=E.o.pg.cell 0 (by simp);have M:=E.o.pg.cell 1 (by simp);simp only[cN,gN,dj.val]at R M;obtain⟨aS,al⟩:=jj.ofOwn (s:=f) aa.o;have bs:Hd (Aq wc f.a a):=aS;have a1:Hd (f.n=a.length):=al;have c1:Hd (a.length<=60):=a2.o.len;have d1:Hd (e=0->∀Q∈a,Q.more.length<=12):=a2.o.low;have cR:Hd (BS wc D h):=c0.o.below bm.o;clear aS al;clear a3 cb a2 aa;go_wp2
     go_loopw [13] (fun bO wr=>∃b:Nat,b<=a.length/\bO=.int .i64 b/\Hd (BB wc wr)/\Hd (∀H (a5:H<a.length),H<b->(a[H].key==h)=false)/\(e≠0->b=0)) (fun bO _=>a.length - (intOf bO).toNat)
     case atStart=>exact⟨0,by omega,by simp,VM _ _,fun H a5 o=>by omega,fun _=>rfl⟩
     case round=>
      obtain⟨b,C,rfl,G,av,e0⟩:=hrel;have e1:(b:Int)<=60:=by have:=c1.o;omega
      have K:Hd (Dz c wr (Oq i) c.heap.size z e f S):=E.o.below G.o;have ar:Hd (aj wr (d.heap.size+1) 49 [.bool false,.slice none 0 0]):=aj.below V.o V.o.lt G.o;have R:=K.o.pg.cell 0 (by simp);have M:=K.o.pg.cell 1 (by simp);have b8:=ar.o.cell 0 (by simp);have b9:=ar.o.cell 1 (by simp);have cc:=ar.o.frozen 0;have cd:=ar.o.frozen 1;simp only[cN,gN,dj.val]at R M b8 b9;by_cases ck:b<a.length/\e=0
      .obtain⟨a0,rfl⟩:=ck;have d0:Hd (∀Q∈a,Q.more.length<=12):=d1.o rfl;have bw:(b:Int)<f.n:=by rw[a1.o];omega
       obtain⟨aD,b0,aO,da,bk,af,bl⟩:=Aq.cells (jj.below_all bs.o G.o) b a0;have Z:=fun(ao:Nat)=>(cR.o.below G.o).below (w':=wr.drewN ao) (by have Y:=VM wr.heap.size wr;exact⟨Y.os,Y.tape,Y.output,Y.size,Y.block⟩);have aP:=fun(ao:Nat)=>wj (P:=Tryz.prog) (wr.drewN ao) 38 9 5 D.a D.n D.cap h Tryz.underlying38 Tryz.underlying5 Tryz.underlying9 (Z ao).n (Z ao).sl (Z ao).nil;unfold Hz at bk af;obtain⟨d7,bb,ba⟩:=f;simp only at aO bw;subst aO;by_cases aR:a[b].key=h
       .have bp:Hd (B=(0,some a[b].more)):=by
         unfold Hd;rw[c7.o,if_pos rfl];have:a.find? (fun Q=>Q.key==h)=some a[b]:=by
          rw[List.find?_eq_some_iff_getElem];exact⟨by simp[aR],b,a0,rfl,fun H a5=>by have:=av.o H (by omega) a5;simpa using this⟩
         rw[this];rfl
        have dB:Hd (a[b].more.length<=12):=d0.o _ (bN a0);have e2:(a[b].key==h)=true:=by simpa using aR
        generalize a[b].key=dp at*;generalize a[b].more=n at*;clear Z aR av bs;go_upto_region 18 with fail;go_quiet (fail);have b1:Hd (BB wc (wr.drewN nq)):=⟨G.o.os,G.o.tape,G.o.output,G.o.size,G.o.block⟩;have el:(wr.drewN nq).cell? ⟨aD,b0+b*3+1,none⟩=some (.string ⟨n.toArray⟩):=af;have dE:(wr.drewN nq).cell? ⟨z,1,none⟩=some (.slice (some ⟨aD,b0,none⟩) bb ba):=M;have ap:Hd (aj (wr.drewN nq) (d.heap.size+1) 49 [.bool false,.slice none 0 0]):=aj.below V.o V.o.lt b1.o;generalize wr.drewN nq=J at*;clear R M bk af bl aP K ar b8 b9 cc cd;have e7:d.heap.size+1<J.heap.size:=ap.o.lt;have d4:=ap.o.cell 0 (by simp);have d5:=ap.o.cell 1 (by simp);have dI:=ap.o.frozen 0;have dO:=ap.o.frozen 1;simp only[cN,gN]at d4 d5;have dT:=fun d=>run_bytes_of_string (P:=Tryz.prog) d 9 38 5 ⟨n.toArray⟩ Tryz.underlying9 Tryz.underlying38 Tryz.underlying5;go_wp2;obtain⟨ab,X,aE⟩:=b4.o J (.bool true) (.slice (some ⟨J.heap.size,0,none⟩) n.length (grownCap J n.length 0 5)) b1.o;refine Lq (k:=6) (k2:=7) (cs:=[.bool true,.slice (some ⟨J.heap.size,0,none⟩) n.length (grownCap J n.length 0 5)]) rfl rfl rfl (aj.of_block (aj.alloc ab _) rfl) Tryz.underlying49 rfl Tryz.sizeAnswer rfl ?_;rw[bp.o];refine⟨⟨some ⟨J.heap.size,0,none⟩,n.length,grownCap J n.length 0 5⟩,rfl,(X.alloc X.size _).drew,?_⟩;have Y:=BS.ofString ((J.setCell ⟨d.heap.size+1,0,none⟩ (.bool true)).setCell ⟨d.heap.size+1,1,none⟩ (.slice (some ⟨J.heap.size,0,none⟩) n.length (grownCap J n.length 0 5))) ⟨n.toArray⟩ (grownCap J n.length 0 5) 5 ((bytesRow ⟨n.toArray⟩ (grownCap J n.length 0 5)).size,(bytesRow ⟨n.toArray⟩ (grownCap J n.length 0 5)).size+1);have aI:=Y.drew;simpa[YW]using aI
       .have db:(a[b].key==h)=false:=by simpa using aR
        have c2:Hd (a.length - (intOf (.int .i64 ((b:Int)+1))).toNat<a.length - (intOf (.int .i64 b)).toNat):=by unfold Hd;simp[intOf];omega
        have cS:Hd (∀H (a5:H<a.length),H<b+1->(a[H].key==h)=false):=fun H a5 o=>by
         by_cases l:H=b
         .subst l;exact db
         .exact av.o H a5 (by omega)
        generalize a[b].key=dp at*;clear Z aR av bs af bl;go_upto_region 18 with fail;go_quiet (fail);have b1:Hd (BB wc (wr.drewN nq)):=⟨G.o.os,G.o.tape,G.o.output,G.o.size,G.o.block⟩;go_wp2;have dl:wrap64 ((b:Int)+1)=(b:Int)+1:=by simp only[wrap64];omega
        refine⟨⟨b+1,a0,?_,b1,cS,fun l=>absurd rfl l⟩,?_⟩
        .go_num
        .first|exact c2.o|(rw[dl];exact c2.o)
      .have bp:Hd (B=(0,none)):=by
        unfold Hd;rw[c7.o];by_cases bg:e=0
        .have e3:b=a.length:=by omega
         rw[if_pos bg,List.find?_eq_none.2 (fun Q a6=>by
          obtain⟨H,a5,rfl⟩:=Kaj.1 a6;have:=av.o H a5 (by omega);simpa using this)]
         rfl
        .rw[if_neg bg]
       have b3:Hd (∀b7:World,b7=(wr.setCell ⟨d.heap.size+1,0,none⟩ (.bool false)).setCell ⟨d.heap.size+1,1,none⟩ (.slice none 0 0)->aj b7 (d.heap.size+1) 49 [.bool false,.slice none 0 0]/\KV d B (.returned (.tuple #[.agg #[.bool false,.slice none 0 0],.int .i64 0])) b7):=fun b7 l=>by
        subst l;obtain⟨ab,X,aE⟩:=b4.o wr (.bool false) (.slice none 0 0) G.o;exact⟨ab,by rw[bp.o];exact⟨⟨none,0,0⟩,rfl,X,(Cq.nil _ (fun _=>False)).bs⟩⟩
       by_cases dc:b<a.length
       .have bw:(b:Int)<f.n:=by rw[a1.o];omega
        have e5:((e:Int)==0)=false:=by have:¬e=0:=fun l=>ck ⟨dc,l⟩;simp;omega
        go_wp2;exact Lq (k:=6) (k2:=7) (cs:=[.bool false,.slice none 0 0]) rfl rfl rfl (b3.o _ rfl).1 Tryz.underlying49 rfl Tryz.sizeAnswer rfl (b3.o _ rfl).2
       .have bw:¬(b:Int)<f.n:=by rw[a1.o];omega
        go_wp2;exact Lq (k:=6) (k2:=7) (cs:=[.bool false,.slice none 0 0]) rfl rfl rfl (b3.o _ rfl).1 Tryz.underlying49 rfl Tryz.sizeAnswer rfl (b3.o _ rfl).2
    .have br:Hd (B=(5,none)):=by
      unfold Hd;rw[ak.o,a3.o];have:aT≠[]:=fun l=>by have:=ca.o;rw[l]at this;simp at this;omega
      simp[WU,this]
     have dn:(0:Int)<a9.n:=by omega
     go_wp2;obtain⟨ab,X,aE⟩:=b4.o wc (.bool false) (.slice none 0 0) (VM _ _);exact Lq (k:=6) (k2:=7) (cs:=[.bool false,.slice none 0 0]) rfl rfl rfl ab Tryz.underlying49 rfl Tryz.sizeAnswer rfl (by rw[br.o];exact⟨⟨none,0,0⟩,rfl,X,(Cq.nil _ (fun _=>False)).bs⟩)
end
section
theorem zv{b:Nat}{d:Option (List UInt8)}{e:List UInt8}(f:mj b d=some e):∃a,d=some a/\e.length+b=a.length:=by
 cases d with
 |none=>cases f
 |some a=>
  have c:(if b<=a.length then some (a.drop b)else none)=some e:=f
  split at c
  .cases c;exact⟨a,rfl,by rw[oN];omega⟩
  .cases c
theorem kL{k:Nat}{d e:List UInt8}(c:Tv k (some d)=some e):e.length+1<=d.length:=by
 have j:∃a,iv (some d)=some a/\e.length<=a.length:=by
  unfold Tv at c
  split at c
  .obtain⟨o,g,l⟩:=zv c;obtain⟨a,b,f⟩:=zv g;exact⟨a,b,by omega⟩
  .obtain⟨a,b,f⟩:=zv c;exact⟨a,b,by omega⟩
 obtain⟨a,b,f⟩:=j;unfold iv at b;obtain⟨p,h,m⟩:=zv b;obtain⟨q,i,n⟩:=zv h;cases i;omega
theorem ZX(e:Nat):∀(c:Nat) (g:List ej) (b:List UInt8) (f:List ej),sq e c g (some b)=some f->c<=b.length
 |0,_,_,_,_=>nN _
 |c+1,g,b,f,a=>by
  unfold sq at a
  split at a
  .cases d:Tv e (some b)with
   |none=>rw[d,Lx]at a;cases a
   |some h=>
    rw[d]at a;have i:=ZX e c _ h f a;have j:=kL d;omega
  .cases a
theorem CG{c:List UInt8}{k:Nat}{e:List ej}(a:Xj c=some (k,e)):e.length+2<=c.length:=by
 unfold Xj at a
 split at a
 case isFalse=>cases a
 case isTrue q=>
  cases b:sq (Fj (some c)) (Fj (mj 1 (some c))) [] (mj 1 (mj 1 (some c)))with
  |none=>rw[b]at a;cases a
  |some j=>
   rw[b]at a;simp only[GN,yN,YN]at a;obtain⟨rfl,rfl⟩:=a;obtain⟨n,h,o⟩:=fZ _ _ [] _ j b List.Pairwise.nil (fun u i=>by cases i);cases d:mj 1 (mj 1 (some c))with
   |none=>rw[d,Lx]at b;cases b
   |some t=>
    rw[d]at b;have p:=ZX _ _ _ _ _ b;obtain⟨r,f,l⟩:=zv d;obtain⟨s,g,m⟩:=zv f;cases g;rw[h];simp;omega
theorem gJ{b f:List UInt8}{k:Nat}{d:List ej}{e:List UInt8}(a:Wq (some b) f=some ((k,d),e)):d.length+e.length+4<=b.length:=by
 unfold Wq at a
 split at a
 .cases a
 .rename_i u c
  split at a
  .cases a
  .rename_i t j
   split at a
   .simp only[yN,YN]at a;obtain⟨rfl,rfl⟩:=a;have o:=CG j;obtain⟨q,g,l⟩:=zv c;obtain⟨r,h,m⟩:=zv g;obtain⟨s,i,n⟩:=zv h;cases i;have p:(fY (some b)).length=bZ (some b):=ky c;omega
   .cases a
theorem BJ(g j:List UInt8):∀(c:Nat) (h:List ej) (i:List UInt8) (d:List ej) (e:List UInt8),Kq g j c h i=some (d,e)->d.length+e.length<=h.length+i.length
 |0,h,i,d,e,l=>by
  have n:some (h,i)=some (d,e):=l;simp only[yN,YN]at n;obtain⟨rfl,rfl⟩:=n;omega
 |c+1,h,i,d,e,l=>by
  have t:∀(m:List ej) (f:List ej×List UInt8),m.foldlM (Jv (Kq g j c) c) f=some (d,e)->d.length+e.length<=f.1.length+f.2.length:=by
   intro m
   induction m with
   |nil=>intro f b;simp only[List.foldlM_nil]at b;cases b;exact TM _
   |cons y C s=>
    intro f b;simp only[List.foldlM_cons]at b;cases a:Jv (Kq g j c) c f y with
    |none=>rw[a]at b;cases b
    |some x=>
     rw[a]at b;have q:=s x b;unfold Jv at a
     split at a
     .cases a
     .rename_i B o p r
      split at a
      .cases k:Kq g j c o p with
       |none=>rw[k]at a;cases a
       |some u=>
        obtain⟨v,w⟩:=u;rw[k]at a;simp only[GN,yN]at a;subst a;have z:=BJ g j c o p v w k;have A:=gJ r;simp at q;omega
      .cases a
  have:=t _ _ l;simp at this;omega
def YU(a:dj×dj):List Value:=[a.1.val,a.2.val]
def xz(a:List (dj×dj)):List Value:=a.flatMap YU
theorem jK(a:List (dj×dj)):(xz a).length=a.length*2:=Jx YU 2 a (fun _ _=>rfl)
theorem gZ(a b:List (dj×dj)):xz (a++b)=xz a++xz b:=by simp[xz]
theorem iZ(d:List (dj×dj)):∀b∈xz d,b.oneCell'=true:=fun b c=>by
 obtain⟨e,_,a⟩:=Eaj.1 c;simp only[YU,dj.val,IN,jaj,or_false]at a;rcases a with rfl|rfl<;>rfl
theorem Tryz.infoEnt:(Tryz.prog.info? 164).map (fun a=>(a.zero,a.size,a.bytes))=some (some (.agg #[.slice none 0 0,.slice none 0 0]),2,48):=by kernel_rfl
structure Qq(w:World)(base:Nat)(v:dj)(es:List (dj×dj))(l:List ej):Prop where
 own:w.ownsRow base 164 2 v.val es.length (xz es)
 len:es.length=l.length
 bs:∀i (h1:i<es.length) (h2:i<l.length),BS w es[i].1 l[i].key/\BS w es[i].2 l[i].more
 ge:∀e∈es,∀x,(e.1.a=some x\/e.2.a=some x)->base<=x.block/\v.val.ownBlock≠some x.block
theorem Qq.nil(d:World)(a:Nat):Qq d a ⟨none,0,0⟩ [] []:=⟨iN _ _ _ _,rfl,fun f b=>absurd b (wN _),fun e c=>(by cases c)⟩
theorem Qq.frame{o p:World}{S:Nat->Prop}{e:Nat}{n:dj}{j:List (dj×dj)}{m:List ej}(a:Qq o e n j m)(g:bj S o p)(f:∀c,S c->c<e):Qq p e n j m:=
 ⟨ij a.own g (fun c q b=>by have:=(a.own.lt c q).1;have:=f c b;omega),a.len,fun l d k=>
  ⟨(a.bs l d k).1.frame g (fun i h b=>by have:=(a.ge _ (bN d) i (SM h)).1;have:=f _ b;omega),
   (a.bs l d k).2.frame g (fun i h b=>by have:=(a.ge _ (bN d) i (RM h)).1;have:=f _ b;omega)⟩,a.ge⟩
theorem Qq.below{w w':World}{a:Nat}{d:dj}{b:List (dj×dj)}{c:List ej}(f:Qq w a d b c)(g:Below w.heap.size w w'):Qq w' a d b c:=f.frame (bj.of_below_all (S:=fun _=>False) g) (fun _ e=>e.elim)
theorem Qq.toBase{k:World}{b c:Nat}{j:dj}{e:List (dj×dj)}{i:List ej}(a:Qq k b j e i)(f:c<=b):Qq k c j e i:=
 ⟨Hj a.own (fun n m=>WM f (a.own.lt n m).1),a.len,a.bs,fun d g l h=>⟨WM f (a.ge d g l h).1,(a.ge d g l h).2⟩⟩
theorem Qq.push{i r:World}{l:Nat}{v v':dj}{j f:List (dj×dj)}{m k:List ej}(g:Qq i l v j m)(n:f.length=k.length)(p:∀b (s:b<f.length) (n:b<k.length),BS i f[b].1 k[b].key/\BS i f[b].2 k[b].more)
  (C:∀e∈f,∀a,(e.1.a=some a\/e.2.a=some a)->l<=a.block/\v.val.ownBlock≠some a.block)
  (D:r.ownsRow l 164 2 v'.val (j.length+f.length) (xz j++xz f))(u:bj (fun E=>v.val.ownBlock=some E) i r)(B:v'.val.ownBlock=v.val.ownBlock\/v'.val.ownBlock=some i.heap.size):Qq r l v' (j++f) (m++k):=by
 have q:∀e,e∈j++f->∀a,(e.1.a=some a\/e.2.a=some a)->a.block<i.heap.size/\l<=a.block/\v.val.ownBlock≠some a.block:=fun e h a c=>by
  rcases fN.1 h with h|h
  .obtain⟨b,d,rfl⟩:=Kaj.1 h;refine⟨?_,g.ge _ h a c⟩;rcases c with c|c
   .exact(g.bs b d (by rw[<-g.len];exact d)).1.lt a c
   .exact(g.bs b d (by rw[<-g.len];exact d)).2.lt a c
  .obtain⟨b,d,rfl⟩:=Kaj.1 h;refine⟨?_,C _ h a c⟩;rcases c with c|c
   .exact(p b d (by rw[<-n];exact d)).1.lt a c
   .exact(p b d (by rw[<-n];exact d)).2.lt a c
 refine⟨by rw[XM,gZ];exact D,by rw[XM,XM,g.len,n],fun b s H=>?_,fun e h a c=>?_⟩
 .have w:=bN s;have t:BS i (j++f)[b].1 (m++k)[b].key/\BS i (j++f)[b].2 (m++k)[b].more:=by
   by_cases d:b<j.length
   .rw[kaj d,kaj (by rw[<-g.len];exact d)];exact g.bs b d (by rw[<-g.len];exact d)
   .have x:m.length<=b:=by rw[<-g.len];omega
    rw[haj (by omega),haj x];simp only[<-g.len];exact p _ _ _
  exact⟨t.1.frame u (fun a c e=>(q _ w a (SM c)).2.2 e),t.2.frame u (fun a c e=>(q _ w a (RM c)).2.2 e)⟩
 .obtain⟨G,z,A⟩:=q e h a c;refine⟨z,?_⟩;rcases B with o|o
  .rw[o];exact A
  .rw[o];intro y;have F:i.heap.size=a.block:=lN y;omega
def bz(b:Nat):Nat->Value:=fun a=>if a%2=0 then .slice (some ⟨b,0,none⟩) 2 2 else .slice none 0 0
structure Rw(w:World)(m kb:Nat):Prop where
 c0:w.cell? ⟨kb,0,none⟩=some (.int .u8 ((m:Int)%251))
 c1:w.cell? ⟨kb,1,none⟩=some (.int .u8 9)
 lt:kb<w.heap.size
theorem Rw.frame{d e:World}{S:Nat->Prop}{h b:Nat}(c:Rw d h b)(f:bj S d e)(g:¬S b):Rw e h b:=
 ⟨by rw[UN (w:=d) (w':=e) (a:=⟨b,0,none⟩) (f.block b c.lt g)];exact c.c0,by rw[UN (w:=d) (w':=e) (a:=⟨b,1,none⟩) (f.block b c.lt g)];exact c.c1,qN c.lt f.size⟩
theorem Rw.below{w w':World}{b a:Nat}(d:Rw w b a)(e:Below w.heap.size w w'):Rw w' b a:=d.frame (bj.of_below_all (S:=fun _=>False) e) (fun c=>c)
theorem Yy(b:dj)(d f:Nat)(c:World)(j:vz c (bz f) 2 b)(e:Rw c d f)(A:b.n<=140737488355328)(x:d<=140737488355328):
  CP 59 #[b.val,.int .i64 d] c fun o q=>o=.returned (.bool true)/\q=c:=by
 have z:(d:Int)<=140737488355328:=by omega
 have y:(0:Int)<=d:=by omega
 have B:(b.n:Int)<=140737488355328:=by omega
 have h:Hd (vz c (bz f) 2 b):=j;have C:=e.c0;have D:=e.c1;clear j e;unfold dj.val;go_enter Tryz.func59,Tryz.ntmps59;go_wp2
 go_loop [5] (fun g=>∃a:Nat,a<=b.n/\g=.int .i64 a) (fun g=>b.n - (intOf g).toNat)
 case atStart=>exact⟨0,by omega,rfl⟩
 case round=>
  obtain⟨a,e,rfl⟩:=hrel;by_cases w:a<b.n
  .have p:(a:Int)<b.n:=by omega
   obtain⟨i,k,u,m⟩:=h.o (a*2) (by omega);obtain⟨t,l,v,n⟩:=h.o (a*2+1) (by omega);rw[k]at l;cases l;have r:c.cell? ⟨i,a*2,none⟩=some (.slice (some ⟨f,0,none⟩) 2 2):=by rw[m];unfold bz;rw[if_pos (by omega)]
   have s:c.cell? ⟨i,a*2+1,none⟩=some (.slice none 0 0):=by rw[n];unfold bz;rw[if_neg (by omega)]
   rw[k];clear m n;go_wp2
   go_round
   case rel=>exact⟨a+1,by omega,by go_num⟩
   case measure=>simp[intOf];omega
  .have p:¬(a:Int)<b.n:=by omega
   go_wp2;go_ret;exact⟨rfl,rfl⟩
theorem ZU(c:Yq)(a e:Nat)(b:World)(d:Sv b (bz e) 2 c)(p:Rw b a e)(i:a<=140737488355328):
  CP 26 #[.agg (qz c a).toArray] b fun f q=>f=.returned (.bool true)/\Below b.heap.size b q:=by
 have j:Below b.heap.size b (b.alloc (.cells (rO c (a:Int)) 65)):=tO;have g:=d.below j;have h:=p.below j;have l:Hd (Calls _ _ _ _ _):=Yy c.l a e _ g.l h (by have:=d.nl;omega) i;have m:Hd (Calls _ _ _ _ _):=Yy c.one a e _ g.one h (by have:=d.n1;omega) i;have n:Hd (Calls _ _ _ _ _):=Yy c.two a e _ g.two h (by have:=d.n2;omega) i;have o:Hd (Calls _ _ _ _ _):=Yy c.three a e _ g.three h (by have:=d.n3;omega) i;clear d g j p h;unfold qz;unfold dj.val at l m n o⊢;go_enter Tryz.func26,Tryz.ntmps26;go_wp2_with fail;refine l.o.mono ?_;rintro f k ⟨rfl,rfl⟩;go_wp2_with fail;refine m.o.mono ?_;rintro f k ⟨rfl,rfl⟩;go_wp2_with fail;refine n.o.mono ?_;rintro f k ⟨rfl,rfl⟩;go_wp2_with fail;refine o.o.mono ?_;rintro f k ⟨rfl,rfl⟩;go_wp2;go_ret;exact⟨rfl,by go_grown⟩
theorem Tryz.sizeEnts:(Tryz.prog.info? 65).map (·.size)=some 5:=by kernel_rfl
theorem lX(b:Nat):∀a,(bz b a).oneCell'=true:=fun a=>by unfold bz;split<;>rfl
theorem aF(c b d:Nat):Jj (fun a=>bz c (b*2+a)) (d*2)=Jj (bz c) (d*2):=by
 unfold Jj;refine Haj (fun a _=>?_);unfold bz;have:(b*2+a)%2=a%2:=by omega
 rw[this]
theorem Zy{a:World}{e b c:Nat}{f:Value}(d:Nat)(g:a.ownsRow e 164 2 f b (Jj (bz c) (b*2))):(a.alloc (.cells (Jj (bz c) (d*2)).toArray 164)).ownsRow e 164 2 f b (Jj (bz c) (b*2))/\jj (a.alloc (.cells (Jj (bz c) (d*2)).toArray 164)) (some ⟨a.heap.size,0,none⟩) (Jj (fun h=>bz c (b*2+h)) (d*2)):=by
 refine⟨g.alloc _,?_⟩;rw[aF];exact jj.alloc_new a _ _
theorem DG(b:Nat)(c:List Value)(a:Nat)(f:a*2+1<c.length):((Jj (bz b) (a*2)++c.drop (a*2)).set (a*2) (.slice (some ⟨b,0,none⟩) 2 2)).set (a*2+1) (.slice none 0 0)=Jj (bz b) ((a+1)*2)++c.drop ((a+1)*2):=by
 have d:(.slice (some ⟨b,0,none⟩) 2 2:Value)=bz b (a*2):=by unfold bz;rw[if_pos (by omega)]
 have e:(.slice none 0 0:Value)=bz b (a*2+1):=by unfold bz;rw[if_neg (by omega)]
 rw[d,e,Vx _ _ _ (by omega),Vx _ _ _ (by omega),show(a+1)*2=a*2+1+1 by omega]
def lL(d:World)(g:dj)(f:Nat)(h:Ending)(e:World):Prop:=∃(c:Yq) (b:Nat),h=.returned (.agg (qz c f).toArray)/\Sv e (bz b) 2 c/\Rw e f b/\bj (fun a=>g.val.ownBlock=some a) d e/\(∀a,cy c a->g.val.ownBlock=some a\/d.heap.size+1<a)/\b=d.heap.size+1
theorem MV(B:dj)(aR:Nat)(o:List Value)(l n:Nat)(e:World)(A:e.ownsRow l 164 2 B.val aR o)(am:aR<=1000000000)(ch:n<=140737488355328)(a6:l<=e.heap.size):
  CP 110 #[B.val,.int .i64 n] e (lL e B n):=by
 have ar:=vj (a:=B.a) (n':=B.n) (cap:=B.cap) A;obtain⟨i,j,g⟩:=B;unfold dj.val at A⊢;simp only at A ar;obtain⟨a2,O,bc,ak⟩:=ar;subst a2;have cj:(n:Int)<=140737488355328:=by omega
 have ci:(0:Int)<=n:=by omega
 have a3:Below e.heap.size e (((e.alloc (.cells #[.slice none 0 0,.slice none 0 0,.slice none 0 0,.slice none 0 0,.int .i64 0] 65)).alloc (.cells #[.int .u8 ((n:Int)%251),.int .u8 9] 5)).alloc (.cells #[.slice (some ⟨e.heap.size+1,0,none⟩) 2 2,.slice none 0 0] 164)):=(tO.alloc (by simp) _).alloc (by simp;omega) _;have aO:o.length=j*2:=A.1;have b7:Hd (aj (((e.alloc (.cells #[.slice none 0 0,.slice none 0 0,.slice none 0 0,.slice none 0 0,.int .i64 0] 65)).alloc (.cells #[.int .u8 ((n:Int)%251),.int .u8 9] 5)).alloc (.cells #[.slice (some ⟨e.heap.size+1,0,none⟩) 2 2,.slice none 0 0] 164)) e.heap.size 65 [.slice none 0 0,.slice none 0 0,.slice none 0 0,.slice none 0 0,.int .i64 0]):=((aj.new e _ _).alloc _).alloc _;have b3:Hd (aj (((e.alloc (.cells #[.slice none 0 0,.slice none 0 0,.slice none 0 0,.slice none 0 0,.int .i64 0] 65)).alloc (.cells #[.int .u8 ((n:Int)%251),.int .u8 9] 5)).alloc (.cells #[.slice (some ⟨e.heap.size+1,0,none⟩) 2 2,.slice none 0 0] 164)) (e.heap.size+1) 5 [.int .u8 ((n:Int)%251),.int .u8 9]):=(aj.new_at _ _ _ _ (by simp)).alloc _;have b9:Hd (aj (((e.alloc (.cells #[.slice none 0 0,.slice none 0 0,.slice none 0 0,.slice none 0 0,.int .i64 0] 65)).alloc (.cells #[.int .u8 ((n:Int)%251),.int .u8 9] 5)).alloc (.cells #[.slice (some ⟨e.heap.size+1,0,none⟩) 2 2,.slice none 0 0] 164)) (e.heap.size+1+1) 164 [.slice (some ⟨e.heap.size+1,0,none⟩) 2 2,.slice none 0 0]):=aj.new_at _ _ _ _ (by simp);have b5:Hd ((((e.alloc (.cells #[.slice none 0 0,.slice none 0 0,.slice none 0 0,.slice none 0 0,.int .i64 0] 65)).alloc (.cells #[.int .u8 ((n:Int)%251),.int .u8 9] 5)).alloc (.cells #[.slice (some ⟨e.heap.size+1,0,none⟩) 2 2,.slice none 0 0] 164)).ownsRow l 164 2 (.slice i j g) j o):=lj A a3;have b1:Hd (bj (fun b=>(Value.slice i j g).ownBlock=some b) e (((e.alloc (.cells #[.slice none 0 0,.slice none 0 0,.slice none 0 0,.slice none 0 0,.int .i64 0] 65)).alloc (.cells #[.int .u8 ((n:Int)%251),.int .u8 9] 5)).alloc (.cells #[.slice (some ⟨e.heap.size+1,0,none⟩) 2 2,.slice none 0 0] 164))):=bj.of_below_all a3
 have Y:Hd (∀b,(Value.slice i j g).ownBlock=some b->l<=b/\b<e.heap.size):=A.lt;have ck:(j:Int)<=1000000000:=by omega
 have aS:Hd (i=none/\j=0/\g=0\/∃h,i=some ⟨h,0,none⟩/\l<=h/\h<e.heap.size):=ak;have aT:Hd (l<=e.heap.size):=a6;have v:Hd (j<=1000000000):=am;have af:Hd (o.length=j*2):=aO;clear a3 A O bc ak a6 am aO;go_enter Tryz.func110,Tryz.ntmps110;go_upto_region 2 with fail;generalize ((e.alloc (.cells #[.slice none 0 0,.slice none 0 0,.slice none 0 0,.slice none 0 0,.int .i64 0] 65)).alloc (.cells #[.int .u8 ((n:Int)%251),.int .u8 9] 5)).alloc (.cells #[.slice (some ⟨e.heap.size+1,0,none⟩) 2 2,.slice none 0 0] 164)=c6 at*;generalize bw:e.heap.size+1+1=u at*;generalize br:e.heap.size+1=d at*;have M:Hd (u=e.heap.size+2):=by unfold Hd;omega
 have W:Hd (d=e.heap.size+1):=by unfold Hd;omega
 have cl:u≠e.heap.size:=by have:=M.o;omega
 clear bw br;go_wp2
 go_loopw [6] (fun aa wr=>∃b:Nat,b<=j/\aa=.int .i64 b/\Hd (wr.ownsRow l 164 2 (.slice i j g) j (Jj (bz d) (b*2)++o.drop (b*2)))/\Hd (bj (fun b=>(Value.slice i j g).ownBlock=some b) e wr)/\Hd (aj wr e.heap.size 65 [.slice none 0 0,.slice none 0 0,.slice none 0 0,.slice none 0 0,.int .i64 0])/\Hd (aj wr d 5 [.int .u8 ((n:Int)%251),.int .u8 9])/\Hd (aj wr u 164 [.slice (some ⟨d,0,none⟩) 2 2,.slice none 0 0])) (fun aa _=>j - (intOf aa).toNat)
 case atStart=>exact⟨0,by omega,by simp,by unfold Hd;simpa[Jj]using b5.o,b1,b7,b3,b9⟩
 case round=>
  obtain⟨b,cb,rfl,w,U,X,V,C⟩:=hrel;have bR:=C.o.cell 0 (by simp);have bS:=C.o.cell 1 (by simp);simp only[cN,gN]at bR bS;have cd:(b:Int)<=1000000000:=by omega
  by_cases cf:b<j
  .have bu:(b:Int)<j:=by omega
   obtain⟨h,a9,bk,bn⟩:∃h,i=some ⟨h,0,none⟩/\l<=h/\h<e.heap.size:=by
    rcases aS.o with⟨_,c9,_⟩|x
    .omega
    .exact x
   subst a9;have bs:b*2+1<o.length:=by have:=af.o;omega
   have a8:(Jj (bz d) (b*2)++o.drop (b*2)).length=o.length:=by rw[XM,Iq,oN];omega
   obtain⟨co,aA⟩:∃S,(Jj (bz d) (b*2)++o.drop (b*2))[b*2]? =some S:=⟨_,UM (by rw[a8];omega)⟩;obtain⟨cp,aB⟩:∃S,(Jj (bz d) (b*2)++o.drop (b*2))[b*2+1]? =some S:=⟨_,UM (by rw[a8];omega)⟩;have ba:=BN w.o (b*2) (by omega);have bb:=BN w.o (b*2+1) (by omega);rw[aA]at ba;rw[aB]at bb;have c7:=CN w.o (b*2);have c8:=CN w.o (b*2+1);have b4:Hd (((wr.setCell ⟨h,b*2,none⟩ (.slice (some ⟨d,0,none⟩) 2 2)).setCell ⟨h,b*2+1,none⟩ (.slice none 0 0)).ownsRow l 164 2 (.slice (some ⟨h,0,none⟩) j g) j (Jj (bz d) ((b+1)*2)++o.drop ((b+1)*2))):=by
    have a2:=(QN w.o (b*2) (.slice (some ⟨d,0,none⟩) 2 2)).1;have O:=(QN a2 (b*2+1) (.slice none 0 0)).1;rw[DG d o b bs]at O;exact O
   have K:bj (fun c=>(Value.slice (some ⟨h,0,none⟩) j g).ownBlock=some c) wr ((wr.setCell ⟨h,b*2,none⟩ (.slice (some ⟨d,0,none⟩) 2 2)).setCell ⟨h,b*2+1,none⟩ (.slice none 0 0)):=((bj.refl (fun c=>(Value.slice (some ⟨h,0,none⟩) j g).ownBlock=some c) wr).setCell (p:=⟨h,b*2,none⟩) rfl _).setCell (p:=⟨h,b*2+1,none⟩) rfl _;have R:∀c,e.heap.size<=c->¬(Value.slice (some ⟨h,0,none⟩) j g).ownBlock=some c:=fun c f m=>by have:=(Y.o c m).2;omega
   have b0:Hd (bj (fun b=>(Value.slice (some ⟨h,0,none⟩) j g).ownBlock=some b) e ((wr.setCell ⟨h,b*2,none⟩ (.slice (some ⟨d,0,none⟩) 2 2)).setCell ⟨h,b*2+1,none⟩ (.slice none 0 0))):=U.o.trans K;have b6:Hd (aj ((wr.setCell ⟨h,b*2,none⟩ (.slice (some ⟨d,0,none⟩) 2 2)).setCell ⟨h,b*2+1,none⟩ (.slice none 0 0)) e.heap.size 65 [.slice none 0 0,.slice none 0 0,.slice none 0 0,.slice none 0 0,.int .i64 0]):=aj.of_block X.o (K.block _ X.o.lt (R _ (TM _)));have b2:Hd (aj ((wr.setCell ⟨h,b*2,none⟩ (.slice (some ⟨d,0,none⟩) 2 2)).setCell ⟨h,b*2+1,none⟩ (.slice none 0 0)) d 5 [.int .u8 ((n:Int)%251),.int .u8 9]):=aj.of_block V.o (K.block _ V.o.lt (R _ (by have:=W.o;omega)));have b8:Hd (aj ((wr.setCell ⟨h,b*2,none⟩ (.slice (some ⟨d,0,none⟩) 2 2)).setCell ⟨h,b*2+1,none⟩ (.slice none 0 0)) u 164 [.slice (some ⟨d,0,none⟩) 2 2,.slice none 0 0]):=aj.of_block C.o (K.block _ C.o.lt (R _ (by have:=M.o;omega)));clear bk bn K R a8 aA aB;go_wp2;exact⟨⟨b+1,by omega,by go_num,b4,b0,b6,b2,b8⟩,by simp[intOf];omega⟩
  .obtain rfl:b=j:=by omega
   have bu:¬(b:Int)<b:=by omega
   have ae:Hd (wr.ownsRow l 164 2 (.slice i b g) b (Jj (bz d) (b*2))):=by
    have:=w.o;rw[xaj (by rw[af.o];exact TM _),XN]at this;exact this
   clear w;have a9:=Y.o;have ad:Hd (∀c,(Value.slice i b g).ownBlock=some c->c<e.heap.size):=fun c f=>(Y.o c f).2;have t:Hd (∀(a0 a1:World) (N:Nat) (Z:Nat) (ab:List Value),e.heap.size<=N->aj a0 N Z ab->bj (fun c=>(Value.slice i b g).ownBlock=some c) a0 a1->aj a1 N Z ab):=fun a0 a1 N Z ab a6 x bl=>x.of_block (bl.block _ x.lt (fun m=>by have:=ad.o _ m;omega));have T:Hd (l<=wr.heap.size):=WM aT.o U.o.size;have a7:e.heap.size<=d:=by have:=W.o;omega
   have aI:e.heap.size<=u:=by have:=M.o;omega
   clear a9;go_wp2_with (first
    |(at_builtin;have bC:(wr.alloc (.cells #[.slice (some ⟨d,0,none⟩) 2 2,.slice none 0 0] 164)).ownsRow l 164 2 (.slice i b g) b (Jj (bz d) (b*2)):=(Zy 1 ae.o).1;have bI:jj (wr.alloc (.cells #[.slice (some ⟨d,0,none⟩) 2 2,.slice none 0 0] 164)) (some ⟨wr.heap.size,0,none⟩) (Jj (fun L=>bz d (b*2+L)) (1*2)):=(Zy 1 ae.o).2;refine uv (by rfl) (.tmp 25) (.tmp 27) 63 (by rfl) l 164 _ 2 48 Tryz.underlying63 Tryz.infoEnt rfl (by decide) (bz d) (.slice i b g) b (by rfl) bC ⟨wr.heap.size,0,none⟩ 1 1 (by rfl) bI (lX d) (by decide) (by have:=v.o;unfold maxLen;omega) (by have:=v.o;omega) (by have:=T.o;simp;omega) ?_;intro E H q au y bg cc aC;have a5:=t.o _ _ u _ _ aI (aj.alloc C.o _) y;have bT:=a5.cell 0 (by simp);have c0:=a5.cell 1 (by simp);simp only[cN,gN]at bT c0)
    |(at_builtin;have bD:(q.alloc (.cells #[.slice (some ⟨d,0,none⟩) 2 2,.slice none 0 0,.slice (some ⟨d,0,none⟩) 2 2,.slice none 0 0] 164)).ownsRow l 164 2 (.slice i b g) b (Jj (bz d) (b*2)):=(Zy 2 aC).1;have bO:jj (q.alloc (.cells #[.slice (some ⟨d,0,none⟩) 2 2,.slice none 0 0,.slice (some ⟨d,0,none⟩) 2 2,.slice none 0 0] 164)) (some ⟨q.heap.size,0,none⟩) (Jj (fun L=>bz d (b*2+L)) (2*2)):=(Zy 2 aC).2;refine uv (by rfl) (.tmp 29) (.tmp 32) 63 (by rfl) l 164 _ 2 48 Tryz.underlying63 Tryz.infoEnt rfl (by decide) (bz d) (.slice i b g) b (by rfl) bD ⟨q.heap.size,0,none⟩ 2 2 (by rfl) bO (lX d) (by decide) (by have:=v.o;unfold maxLen;omega) (by have:=v.o;omega) (by have:=(WM T.o (WM (by simp) y.size):l<=q.heap.size);simp;omega) ?_;intro F I r av D bh bo aD;have an:=t.o _ _ u _ _ aI (aj.alloc a5 _) D;have c1:=an.cell 0 (by simp);have c2:=an.cell 1 (by simp);simp only[cN,gN]at c1 c2)
    |(at_builtin;have bE:(r.alloc (.cells #[.slice (some ⟨d,0,none⟩) 2 2,.slice none 0 0,.slice (some ⟨d,0,none⟩) 2 2,.slice none 0 0,.slice (some ⟨d,0,none⟩) 2 2,.slice none 0 0] 164)).ownsRow l 164 2 (.slice i b g) b (Jj (bz d) (b*2)):=(Zy 3 aD).1;have bP:jj (r.alloc (.cells #[.slice (some ⟨d,0,none⟩) 2 2,.slice none 0 0,.slice (some ⟨d,0,none⟩) 2 2,.slice none 0 0,.slice (some ⟨d,0,none⟩) 2 2,.slice none 0 0] 164)) (some ⟨r.heap.size,0,none⟩) (Jj (fun L=>bz d (b*2+L)) (3*2)):=(Zy 3 aD).2;refine uv (by rfl) (.tmp 34) (.tmp 38) 63 (by rfl) l 164 _ 2 48 Tryz.underlying63 Tryz.infoEnt rfl (by decide) (bz d) (.slice i b g) b (by rfl) bE ⟨r.heap.size,0,none⟩ 3 3 (by rfl) bP (lX d) (by decide) (by have:=v.o;unfold maxLen;omega) (by have:=v.o;omega) (by have:=(WM T.o (WM (WM (by simp) y.size) (WM (by simp) D.size)):l<=r.heap.size);simp;omega) ?_;intro G J ac ax P bi bp aE;have be:=t.o _ _ _ _ _ (TM _) (aj.alloc (t.o _ _ _ _ _ (TM _) (aj.alloc (t.o _ _ _ _ _ (TM _) (aj.alloc X.o _) y) _) D) _) P)
    |(refine xv (by rfl) 65 (.tmp 4) (.tmp 45) (by rfl) e.heap.size (by rfl) [.slice i b g,.slice E (b+1) H,.slice F (b+2) I,.slice G (b+3) J,.int .i64 n] (by rfl) be rfl Tryz.sizeEnts (fun S bv=>YJ bv) ?_;intro cr bf z cn))
   have al:=t.o _ _ _ _ _ a7 (aj.alloc (t.o _ _ _ _ _ a7 (aj.alloc (t.o _ _ _ _ _ a7 (aj.alloc V.o _) y) _) D) _) P;have cm:u<wr.heap.size:=C.o.lt;have c3:=y.size;have c4:=D.size;have c5:=P.size;simp only[YM]at c3 c4 c5;have ao:Below q.heap.size q (q.alloc (.cells #[.slice (some ⟨d,0,none⟩) 2 2,.slice none 0 0,.slice (some ⟨d,0,none⟩) 2 2,.slice none 0 0] 164)):=tO;have ap:Below r.heap.size r (r.alloc (.cells #[.slice (some ⟨d,0,none⟩) 2 2,.slice none 0 0,.slice (some ⟨d,0,none⟩) 2 2,.slice none 0 0,.slice (some ⟨d,0,none⟩) 2 2,.slice none 0 0] 164)):=tO;have bA:Pq (bz d) q r:=(Pq.below ao).trans bo ao.size;have aP:Pq (bz d) r ac:=(Pq.below ap).trans bp ap.size;have bB:Pq (bz d) q ac:=bA.trans aP (by omega);have bd:=W.o;have ca:=M.o;have ag:∀c,(Value.slice E (b+1) H).ownBlock=some c->(Value.slice i b g).ownBlock=some c\/e.heap.size+1<c:=fun c f=>by
    rcases bg with m|m
    .exact SM (by rw[<-m];exact f)
    .rw[m]at f;have:=lN f;simp at this;exact RM (by omega)
   have ah:∀c,(Value.slice F (b+2) I).ownBlock=some c->(Value.slice i b g).ownBlock=some c\/e.heap.size+1<c:=fun c f=>by
    rcases bh with m|m
    .exact SM (by rw[<-m];exact f)
    .rw[m]at f;have:=lN f;simp at this;exact RM (by omega)
   have ai:∀c,(Value.slice G (b+3) J).ownBlock=some c->(Value.slice i b g).ownBlock=some c\/e.heap.size+1<c:=fun c f=>by
    rcases bi with m|m
    .exact SM (by rw[<-m];exact f)
    .rw[m]at f;have:=lN f;simp at this;exact RM (by omega)
   have Q:∀c,((Value.slice i b g).ownBlock=some c\/e.heap.size+1<c)->¬c=e.heap.size:=fun c f m=>by
    rcases f with x|x
    .have:=ad.o c x;omega
    .omega
   have bm:bj (fun c=>(Value.slice i b g).ownBlock=some c) e ac:=(((((U.o.alloc _).trans y).alloc _).trans D).alloc _).trans P;have ce:=v.o;have a4:=aj.of_block al (z.block _ al.lt (by omega));refine Cv (k:=4) (cs:=qz ⟨⟨i,b,g⟩,⟨E,b+1,H⟩,⟨F,b+2,I⟩,⟨G,b+3,J⟩⟩ n) rfl rfl bf Tryz.underlying65 rfl Tryz.sizeEnts rfl ⟨⟨⟨i,b,g⟩,⟨E,b+1,H⟩,⟨F,b+2,I⟩,⟨G,b+3,J⟩⟩,d,rfl,⟨?_,?_,?_,?_,by simp only;omega,by simp only;omega,by simp only;omega,by simp only;omega,?_⟩,⟨a4.cell 0 (by simp),a4.cell 1 (by simp),a4.lt⟩,?_,?_,bd⟩
   .exact(vz.own (s:=⟨i,b,g⟩) aE).frame z (fun c f=>Q c (SM f))
   .exact((vz.own (s:=⟨E,b+1,H⟩) au).keep bB (by omega)).frame z (fun c f=>Q c (ag c f))
   .exact((vz.own (s:=⟨F,b+2,I⟩) av).keep aP (by omega)).frame z (fun c f=>Q c (ah c f))
   .exact(vz.own (s:=⟨G,b+3,J⟩) ax).frame z (fun c f=>Q c (ai c f))
   .intro c f;have ct:=z.size;rcases f with f|f|f|f
    .have:=(aE.lt c f).2;omega
    .have:=(au.lt c f).2;omega
    .have:=(av.lt c f).2;omega
    .have:=(ax.lt c f).2;omega
   .exact bj.inside bm z (fun c cg m=>by omega)
   .intro c f;rcases f with f|f|f|f
    .exact SM f
    .exact ag c f
    .exact ah c f
    .exact ai c f
end
end Go.Proofs.YtekegfbjbainhaaGreat
