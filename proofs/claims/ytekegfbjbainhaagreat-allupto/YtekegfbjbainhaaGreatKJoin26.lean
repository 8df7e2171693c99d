import Derived.Test.YtekegfbjbainhaaGreatKJoin25
import Derived.Defers
import Derived.Recover
set_option maxRecDepth 100000
set_option maxHeartbeats 8000000
set_option linter.unusedVariables false
set_option linter.unusedSimpArgs false
namespace Go.Proofs.YtekegfbjbainhaaGreat
open Go.RowKit
attribute [local go_sem↓] Go.wp_at_zero Go.wp_at_succ
theorem lM(g k:List UInt8)(l:Nat)(cP:ZJ g k l):ZJ g k (l+1):=by
 intro n t cg e bB O v aO aP b aB cj aA N ck bn bo co cI dC;have eh:=aB.lt;have dE:l+1<=6:=aA.le6;obtain⟨o,av⟩:∃o,o=l+1:=⟨_,rfl⟩;obtain⟨f,aC⟩:∃f,f=Ry O g k O.length:=⟨_,rfl⟩;rw[show Kq g k (l+1) O v=Sw g k l f v f.length by rw[aC];unfold Sw;rw[raj];rfl];have b4:Hd (o=l+1):=av;rw[<-av];have a3:Below b.heap.size b (b.alloc (.cells #[.int .i64 o,.slice e.a e.n e.cap] 171)):=tO;have bb:Hd (aj (b.alloc (.cells #[.int .i64 o,.slice e.a e.n e.cap] 171)) b.heap.size 171 [.int .i64 o,.slice e.a e.n e.cap]):=aj.new b _ _;obtain⟨cD,cm⟩:=jj.ofOwn (s:=e) N.own;have ar:=N.len;have ao:Hd (Calls _ _ _ _ _):=DW e bB O aO aP g k (b.alloc (.cells #[.int .i64 o,.slice e.a e.n e.cap] 171)) (by rw[cm,ar]) ar (by have:=aA.len;omega) (jj.below_all cD a3) N.d8 (fun S ch ci=>((N.en S ch ci).key.bs).below a3) (bn.below a3) (bo.below a3);obtain⟨p,bs⟩:∃p,p=Fv O bB g k O.length:=⟨_,rfl⟩;rw[<-bs]at ao;have aE:=rU O bB g k (fun q aI=>pJ o b n q aI.key aI.more) ar (by rw[av];exact N.en) O.length (TM _);rw[<-bs,<-aC]at aE;have bi:Hd (p.length=f.length):=aE.1;have cf:Hd (∀S (ch:S<p.length) (ci:S<f.length),pJ o b n p[S] f[S].key f[S].more):=aE.2;have c9:Hd (f.length<=60):=by unfold Hd;rw[aC];exact WM (oK O g k O.length) aA.len
 have df:Hd (iz b n t v):=aB;have ak:Hd (∀d,n d->d<b.heap.size):=cj;have d6:Hd (BS b aO g):=bn;have dn:Hd (BS b aP k):=bo;have bP:Hd (∀q,aO.a=some q->q.block≠t):=co;have ca:Hd (∀q,aP.a=some q->q.block≠t):=cI;have b5:Hd (v.length<=1000000000):=by unfold Hd;omega
 have d2:Hd (cg<=b.heap.size):=ck;have d8:Hd (ZJ g k l):=cP;have bS:Hd (¬n t):=by obtain⟨_,_,_,dO⟩:=aB;exact dO
 have bC:Hd (BB b (b.alloc (.cells #[.int .i64 o,.slice e.a e.n e.cap] 171))):=a3;have ee:(o:Int)<=6:=by omega
 have ed:((o:Int)==0)=false:=by simp;omega
 clear aB cj aA N ck bn bo co cI dC cD cm ar aE bs aC cP av dE a3;unfold dj.val at ao;go_enter Tryz.func103,Tryz.ntmps103;go_wp2_with fail;refine ao.o.mono ?_;rintro a z ⟨L,rfl,ax,br⟩;have bp:Below b.heap.size b z:=bC.o.trans (br.mono (by simp));have d7:Hd (bj (fun d=>d=t) b z):=bj.of_below_all bp;have c4:Hd (aj z b.heap.size 171 [.int .i64 o,.slice e.a e.n e.cap]):=aj.below bb.o bb.o.lt br;have c2:Hd (z.ownsRow b.heap.size 74 10 L.val p.length (Sj p)):=Hj ax (fun d r=>by have:=(ax.lt d r).1;simp at this;omega);have dd:Hd (∀d,L.val.ownBlock=some d->d<z.heap.size):=fun d r=>(c2.o.lt d r).2;have cv:L.n=p.length:=(jj.ofOwn (s:=L) ax).2;have b9:Hd (L.n=f.length):=by unfold Hd;rw[cv,bi.o]
 have dg:Hd (iz z n t v):=df.o.below bp;have ei:b.heap.size<z.heap.size:=c4.o.lt;have dP:(L.n:Int)<=60:=by rw[b9.o];have:=c9.o;omega
 have d1:Hd (∀q∈p,q.d.length=8):=fun q a8=>by
  obtain⟨S,cp,rfl⟩:=Kaj.1 a8;exact(cf.o S cp (by rw[<-bi.o];exact cp)).d8
 clear ax br ao bb bC cv bp;go_wp2
 go_loopw [9,11,12,24] (fun e6 _ _ bu wr=>∃(h:Nat) (K:dj) (I:List Pj) (J:List ej) (P:List UInt8),h<=f.length/\bu=.int .i64 h/\e6=.slice K.a K.n K.cap/\Hd (bj (fun d=>d=t) b wr)/\Hd (aj wr b.heap.size 171 [.int .i64 o,.slice e.a e.n e.cap])/\Hd (wr.ownsRow b.heap.size 74 10 L.val p.length (Sj p))/\Hd (iz wr n t P)/\Hd (lz 0 wr n z.heap.size K I J)/\Hd (Sw g k l f v h=some (J,P))/\Hd (J.length+P.length<=v.length)/\Hd (z.heap.size<=wr.heap.size)) (fun _ _ _ bu _=>f.length - (intOf bu).toNat)
 case atStart=>exact⟨0,⟨none,0,0⟩,[],[],v,by omega,by simp,rfl,d7,c4,c2,dg,lz.nil _ _ _ _,rfl,by unfold Hd;simp,TM _⟩
 case round=>
  obtain⟨h,K,I,J,P,eb,rfl,rfl,b1,ba,b6,bf,aR,bR,b3,dp⟩:=hrel;have ec:(h:Int)<=60:=by have:=c9.o;omega
  by_cases au:h<f.length
  .have cr:(h:Int)<L.n:=by rw[b9.o];omega
   have cs:h<p.length:=by rw[bi.o];exact au
   obtain⟨ab,ag,cl,ea,cC⟩:=Mk.range (jj.ofOwn (s:=L) b6.o).1 d1.o h cs;have N:=cf.o h cs au;have bg:Hd (Sw g k l f v (h+1)=Jv (Kq g k l) l (J,P) f[h]):=by unfold Hd;rw[pL au,bR.o];rfl
   generalize p[h]=q at*;generalize f[h]=aI at*;obtain⟨x,y,du⟩:=q;obtain⟨A,B,C,D,E,F,G,H,rfl⟩:=uj du N.d8;have b2:Hd (aI.more=[A,B,C,D,E,F,G,H]):=(N.high (by have:=b4.o;omega)).2.symm;have c8:Hd (wr.rangeAt ab (ag+h*10) [.slice x.a x.n x.cap,.slice y.a y.n y.cap,.int .u8 A.toNat,.int .u8 B.toNat,.int .u8 C.toNat,.int .u8 D.toNat,.int .u8 E.toNat,.int .u8 F.toNat,.int .u8 G.toNat,.int .u8 H.toNat]):=cC;have ap:Below wr.heap.size wr (wr.alloc (.cells (xO x y A B C D E F G H) 74)):=tO;have ai:Hd (BB wr (wr.alloc (.cells (xO x y A B C D E F G H) 74))):=ap;have Q:Hd (aj (wr.alloc (.cells (xO x y A B C D E F G H) 74)) wr.heap.size 74 [.slice x.a x.n x.cap,.slice y.a y.n y.cap,.int .u8 A.toNat,.int .u8 B.toNat,.int .u8 C.toNat,.int .u8 D.toNat,.int .u8 E.toNat,.int .u8 F.toNat,.int .u8 G.toNat,.int .u8 H.toNat]):=aj.new wr _ _;have dh:Hd (iz (wr.alloc (.cells (xO x y A B C D E F G H) 74)) n t P):=bf.o.below ap;have bI:Hd (bj (fun d=>d=t) b (wr.alloc (.cells (xO x y A B C D E F G H) 74))):=b1.o.trans (bj.of_below_all ap);obtain⟨el,bw,bv⟩:=L;simp only at cl cr dP;subst cl;clear cC N ap;go_upto_region 7 with(refine wpList_load_mid (by rfl) 74 (.tmp 26) (by rfl) ab (ag+h*10) (by rfl) [.slice x.a x.n x.cap,.slice y.a y.n y.cap,.int .u8 A.toNat,.int .u8 B.toNat,.int .u8 C.toNat,.int .u8 D.toNat,.int .u8 E.toNat,.int .u8 F.toNat,.int .u8 G.toNat,.int .u8 H.toNat] _ c8.o Tryz.underlying74 rfl Tryz.sizeEntryB ?_);have ek:=dp.o;have bc:=aj.below ba.o ba.o.lt ai.o;have b7:=lj b6.o ai.o;have aS:=aR.o.below ai.o;generalize wr.alloc (.cells (xO x y A B C D E F G H) 74)=w at*;have dr:Hd (wr.heap.size<=w.heap.size):=ai.o.size;generalize wr.heap.size=V at*;have dS:w.cell? ⟨V,2,none⟩=some (.int .u8 A.toNat):=Q.o.cell 2 (by simp);have dT:w.cell? ⟨V,3,none⟩=some (.int .u8 B.toNat):=Q.o.cell 3 (by simp);have e0:w.cell? ⟨V,4,none⟩=some (.int .u8 C.toNat):=Q.o.cell 4 (by simp);have e1:w.cell? ⟨V,5,none⟩=some (.int .u8 D.toNat):=Q.o.cell 5 (by simp);have e2:w.cell? ⟨V,6,none⟩=some (.int .u8 E.toNat):=Q.o.cell 6 (by simp)
   have e3:w.cell? ⟨V,7,none⟩=some (.int .u8 F.toNat):=Q.o.cell 7 (by simp);have e4:w.cell? ⟨V,8,none⟩=some (.int .u8 G.toNat):=Q.o.cell 8 (by simp);have e5:w.cell? ⟨V,9,none⟩=some (.int .u8 H.toNat):=Q.o.cell 9 (by simp);have bd:Hd (Calls _ _ _ _ _):=jY n t P [A,B,C,D,E,F,G,H] w dh.o (fun M a0=>qN (ak.o M a0) bI.o.size) rfl;rw[show dV [A,B,C,D,E,F,G,H]=.agg (cO A B C D E F G H)from rfl]at bd;go_wp2_with fail;refine bd.o.mono ?_;rintro a m ⟨a4,R⟩;have b0:Hd (bj (fun d=>d=t) b m):=bI.o.trans a4;have cc:Hd (w.heap.size<=m.heap.size):=a4.size;have al:Hd (aj m b.heap.size 171 [.int .i64 o,.slice e.a e.n e.cap]):=aj.of_block bc (a4.block _ bc.lt (by omega));have c3:Hd (m.ownsRow b.heap.size 74 10 (dj.val ⟨some ⟨ab,ag,none⟩,bw,bv⟩) p.length (Sj p)):=ij b7 a4 (fun d r a=>by have:=(b7.lt d r).1;omega);have bD:Hd (lz 0 m n z.heap.size K I J):=aS.frame a4 (fun d r a=>by have:=(aS.own.lt d r).1;omega) (fun d r a=>bS.o (a▸r));clear dS dT e0 e1 e2 e3 e4 e5 bd a4 ba b6 aR Q bf b1 c8 bc b7 aS;cases X:Wq (some P) [A,B,C,D,E,F,G,H]with
   |none=>
    rw[X]at R;obtain rfl:a=mz:=R;have aa:Hd (Sw g k l f v f.length=none):=oX (j:=h+1) (by rw[bg.o];unfold Jv;simp only[b2.o,X]);unfold mz;go_wp2;refine⟨rfl,b0.o,?_⟩;rw[aa.o];rfl
   |some M=>
    obtain⟨⟨i,Y⟩,a1⟩:=M;rw[X]at R;obtain⟨c,d0,rfl,cn,cA⟩:=R;have W:Below m.heap.size m (m.alloc (.cells #[.int .i64 i,.slice c.a c.n c.cap] 171)):=tO;have a9:Hd (bj (fun d=>d=t) b (m.alloc (.cells #[.int .i64 i,.slice c.a c.n c.cap] 171))):=b0.o.trans (bj.of_below_all W);have am:Hd (aj (m.alloc (.cells #[.int .i64 i,.slice c.a c.n c.cap] 171)) b.heap.size 171 [.int .i64 o,.slice e.a e.n e.cap]):=aj.below al.o al.o.lt W;have b8:Hd ((m.alloc (.cells #[.int .i64 i,.slice c.a c.n c.cap] 171)).ownsRow b.heap.size 74 10 (dj.val ⟨some ⟨ab,ag,none⟩,bw,bv⟩) p.length (Sj p)):=lj c3.o W;have aT:Hd (lz 0 (m.alloc (.cells #[.int .i64 i,.slice c.a c.n c.cap] 171)) n z.heap.size K I J):=bD.o.below W;have c1:Hd (lz i (m.alloc (.cells #[.int .i64 i,.slice c.a c.n c.cap] 171)) n w.heap.size c d0 Y):=cn.below W;have c7:Hd (iz (m.alloc (.cells #[.int .i64 i,.slice c.a c.n c.cap] 171)) n t a1):=cA.below W;have be:Hd (aj (m.alloc (.cells #[.int .i64 i,.slice c.a c.n c.cap] 171)) m.heap.size 171 [.int .i64 i,.slice c.a c.n c.cap]):=aj.new m _ _;have cd:Hd (w.heap.size<=(m.alloc (.cells #[.int .i64 i,.slice c.a c.n c.cap] 171)).heap.size):=WM cc.o W.size;have de:Hd (Hx i Y):=ry X;have c6:Hd (Y.length+a1.length+4<=P.length):=gJ X;have ef:(i:Int)<=6:=by have:=(ry X).le6;omega
    have an:Hd (Sw g k l f v (h+1)=if i=l then(Kq g k i Y a1).map (fun a=>(J++a.1,a.2))else none):=by
     unfold Hd;rw[bg.o];unfold Jv;simp only[b2.o,X];by_cases a:i=l
     .subst a;simp
     .simp[a]
    have e8:b.heap.size<m.heap.size:=al.o.lt;clear cn cA W b0 al c3 bD X bg b2 cc;unfold dj.val;go_upto_region 8 with fail;generalize m.alloc (.cells #[.int .i64 i,.slice c.a c.n c.cap] 171)=bk at*;generalize m.heap.size=em at*;have cR:=am.o.cell 0 (by simp);have cS:=be.o.cell 0 (by simp);have cT:=be.o.cell 1 (by simp);simp only[cN,gN]at cR cS cT;by_cases ae:i=l
    .have dD:((i:Int)==(o:Int) - 1)=true:=by have:=b4.o;simp;omega
     have bh:Hd (Sw g k l f v (h+1)=(Kq g k i Y a1).map (fun a=>(J++a.1,a.2))):=by unfold Hd;rw[an.o,if_pos ae]
     have bE:Hd (Calls _ _ _ _ _):=(ae▸d8.o:ZJ g k i) n t w.heap.size c d0 Y a1 aO aP bk c7.o (fun M a0=>qN (ak.o M a0) a9.o.size) de.o c1.o cd.o (d6.o.frame a9.o (fun q a8 a=>bP.o q a8 a)) (dn.o.frame a9.o (fun q a8 a=>ca.o q a8 a)) bP.o ca.o (by have:=b5.o;have:=b3.o;have:=c6.o;omega);clear ae an;go_wp2_with (go_at_call 132;refine(Ev _).mono ?_;rintro a bA ⟨rfl,af⟩;obtain rfl:bk=bA:=af.symm;clear af);refine bE.o.mono ?_;rintro a Z ⟨a5,R⟩;have bO:Hd (bj (fun d=>d=t) b Z):=a9.o.trans a5;cases a7:Kq g k i Y a1 with
     |none=>
      rw[a7]at R;obtain rfl:a=mz:=R;have aa:Hd (Sw g k l f v f.length=none):=oX (j:=h+1) (by rw[bh.o,a7];rfl);unfold mz;go_wp2;refine⟨rfl,bO.o,?_⟩;rw[aa.o];rfl
     |some M=>
      obtain⟨a2,ah⟩:=M;rw[a7]at R;obtain⟨u,T,rfl,ad,cB⟩:=R;have dl:=BJ g k i Y a1 a2 ah a7;have db:Hd (Sw g k l f v (h+1)=some (J++a2,ah)):=by unfold Hd;rw[bh.o,a7];rfl
      have U:Hd (lz 0 Z n z.heap.size K I J):=aT.o.frame a5 (fun d r a=>by have:=(aT.o.own.lt d r).1;omega) (fun d r a=>bS.o (a▸r));have c5:Hd (aj Z b.heap.size 171 [.int .i64 o,.slice e.a e.n e.cap]):=aj.of_block am.o (a5.block _ am.o.lt (by omega));have dc:Hd (Z.ownsRow b.heap.size 74 10 (dj.val ⟨some ⟨ab,ag,none⟩,bw,bv⟩) p.length (Sj p)):=ij b8.o a5 (fun d r a=>by have:=(b8.o.lt d r).1;omega);have cb:Hd (lz 0 Z n w.heap.size u T a2):=ad;have di:Hd (iz Z n t ah):=cB;obtain⟨ds,dt,aD,cE,ct,_,_⟩:=Nj ad.own;have dI:u.a=ds/\u.n=T.length/\u.cap=dt:=by unfold dj.val at aD;simp only[Value.slice.injEq]at aD;exact aD
      obtain⟨dA,ac,dB⟩:=dI;subst dA;subst dB;have dm:Hd (jj Z u.a (Sj T)):=cE;have da:Hd (u.a=none->u.n=0/\u.cap=0):=fun a=>by have:=ct a;rw[ac];exact⟨this.2,this.1⟩
      have d9:Hd (u.n=T.length):=ac;have d3:Hd ((Sj T).length=u.n*10):=by unfold Hd;rw[ac];exact mv T ad.d8
      have c0:Hd (a2.length+ah.length<=P.length):=by unfold Hd;have:=c6.o;omega
      have bT:Hd (I.length+u.n<=v.length):=by unfold Hd;rw[ac,U.o.len,ad.len];have:=b3.o;have:=c0.o;omega
      have ce:Hd (z.heap.size<=Z.heap.size):=by unfold Hd;have:=a5.size;have:=cd.o;have:=dr.o;omega
      clear aD cE ct ac a5 cB ad bE cR cS cT a7 dl bh am b8 aT c1 c7 be;unfold dj.val;go_wp2_with (at_builtin;refine rq (by rfl) (.tmp 39) (.tmp 44) 67 (by rfl) z.heap.size 74 _ 10 56 Tryz.underlying67 Tryz.infoEntry rfl (by decide) (.slice K.a K.n K.cap) I.length (Sj I) (by rfl) U.o.own u.a u.n u.cap (Sj T) (by rfl) d3.o dm.o da.o (Gk _) (by have:=bT.o;have:=b5.o;unfold maxLen;omega) (by have:=bT.o;have:=b5.o;omega) ce.o ?_;intro en e7 cu a6 e9;obtain⟨bl,bm,dR,_⟩:=Nj cu;subst dR);have d4:lz 0 e7 n z.heap.size ⟨bl,I.length+u.n,bm⟩ (I++T) (J++a2):=lz.push (cur:=K) (cur':=⟨bl,I.length+u.n,bm⟩) U.o cb.o.len cb.o.en (by rw[<-d9.o];exact cu) a6 (fun M a0=>by have:=ak.o M a0;omega);refine⟨⟨h+1,⟨bl,I.length+u.n,bm⟩,I++T,J++a2,ah,au,by go_num,rfl,bO.o.inside a6 (fun q a8 a=>by have:=(U.o.own.lt q a).1;omega),aj.of_block c5.o (a6.block _ c5.o.lt (fun a=>by have:=(U.o.own.lt _ a).1;omega)),ij dc.o a6 (fun d r a=>by have:=(U.o.own.lt d a).1;have:=dd.o d r;omega),di.o.frame a6 (fun a=>by have:=(U.o.own.lt _ a).1;omega) (fun M a0 a=>by have:=(U.o.own.lt _ a).1;have:=ak.o M a0;omega),d4,db,by unfold Hd;rw[XM];have:=b3.o;have:=c0.o;omega,WM ce.o a6.size⟩,by simp[intOf];omega⟩
    .have eg:¬(i+1=o):=by have:=b4.o;omega
     have dD:((i:Int)==(o:Int) - 1)=false:=by simp;omega
     have aa:Hd (Sw g k l f v f.length=none):=oX (j:=h+1) (by rw[an.o,if_neg ae]);clear ae an;go_wp2_with (go_at_call 132;refine(Ay _).mono ?_;rintro a bA ⟨rfl,af⟩;obtain rfl:bk=bA:=af.symm;clear af;unfold mz);refine⟨rfl,a9.o,?_⟩;rw[aa.o];rfl
  .have cr:¬(h:Int)<L.n:=by rw[b9.o];omega
   obtain rfl:h=f.length:=by omega
   have d5:Hd (lz 0 wr n cg K I J):=aR.o.toBase (by have:=d2.o;omega);go_wp2;go_ret;refine⟨b1.o,?_⟩;rw[bR.o];exact⟨K,I,rfl,d5.o,bf.o⟩
theorem LG(a b:List UInt8):∀d,ZJ a b d
 |0=>kM a b
 |c+1=>lM a b c (LG a b c)
theorem fF(a b:Addr)(c:World):
  CallsD Tryz.prog 102 #[.pointer (some a),.pointer (some b)] .returning c fun e g h=>e=.returned (.tuple #[])/\g=.returning/\h=c:=by
 refine callsD_of_wpS Tryz.func102 rfl fun d i f=>?_
 apply wpS_seq
 apply wpS_region
 simp[wpOpsS,go_sem,recoverD,f,Tryz.ntmps102,Exit.thenS];refine wpS_of_wp ?_;rw[show(#[Value.pointer (some a),Value.pointer (some b)]++(Array.replicate 9 undef).setIfInBounds 3 Value.nilIface)=#[.pointer (some a),.pointer (some b),undef,undef,undef,.nilIface,undef,undef,undef,undef,undef]from rfl];go_wp2;cases d
 simp_all[bodyPostS,results,Tryz.results102]
theorem qL(a b:Nat)(s:Value)(t:Bool)(c:World)(m:c.cell? ⟨a,0,none⟩=some s)(r:c.frozen? ⟨a,0,none⟩=false)(n:c.cell? ⟨b,0,none⟩=some (.bool t))(q:c.frozen? ⟨b,0,none⟩=false)(x:a<c.heap.size)(z:b<c.heap.size)(y:a≠b):
  CallsD Tryz.prog 102 #[.pointer (some ⟨a,0,none⟩),.pointer (some ⟨b,0,none⟩)] (.panicking [{v:=.iface 166 (.agg #[]),recovered:=false}]) c fun i u f=>i=.returned (.tuple #[])/\u=.panicking [{v:=.iface 166 (.agg #[]),recovered:=true}]/\bj (fun d=>d=a\/d=b) c f/\f.cell? ⟨a,0,none⟩=some (.slice none 0 0)/\f.cell? ⟨b,0,none⟩=some (.bool false):=by
 refine callsD_of_wpS Tryz.func102 rfl fun h w g=>?_
 apply wpS_seq
 apply wpS_region
 simp[wpOpsS,go_sem,recoverD,g,Tryz.ntmps102,Exit.thenS];refine wpS_of_wp ?_;rw[show(#[Value.pointer (some ⟨a,0,none⟩),Value.pointer (some ⟨b,0,none⟩)]++(Array.replicate 9 undef).setIfInBounds 3 (Value.iface 166 (.agg #[])))=#[.pointer (some ⟨a,0,none⟩),.pointer (some ⟨b,0,none⟩),undef,undef,undef,.iface 166 (.agg #[]),undef,undef,undef,undef,undef]from rfl];have o:∀e,(Instr.typeAssert (.iface 166 (.agg #[])) 20 166 true).run Tryz.prog e=.ok (.tuple #[.agg #[],.bool true]) e:=fun e=>by kernel_rfl
 go_wp2;have l:bj (fun d=>d=a\/d=b) c (((c.setCell ⟨a,0,none⟩ (.slice none 0 0)).setCell ⟨b,0,none⟩ (.bool false)).alloc (.cells #[] 166)):=(((bj.refl (fun d=>d=a\/d=b) c).setCell (p:=⟨a,0,none⟩) (SM rfl) _).setCell (p:=⟨b,0,none⟩) (RM rfl) _).alloc _;have j:(((c.setCell ⟨a,0,none⟩ (.slice none 0 0)).setCell ⟨b,0,none⟩ (.bool false)).alloc (.cells #[] 166)).cell? ⟨a,0,none⟩=some (.slice none 0 0):=by go_simp
 have k:(((c.setCell ⟨a,0,none⟩ (.slice none 0 0)).setCell ⟨b,0,none⟩ (.bool false)).alloc (.cells #[] 166)).cell? ⟨b,0,none⟩=some (.bool false):=by go_simp
 clear m r n q o g;cases h;simp[bodyPostS,results,Tryz.results102];exact⟨l,j,k⟩
def aQ(g:World)(h:Nat->Prop)(e:Nat)(l o:List UInt8)(i:Nat)(c:Option (List ej×List UInt8))(j:Ending)(b:World):Prop:=
 ∃(f:dj) (k:List (dj×dj)) (a:List ej),j=.returned f.val/\bj (fun m=>m=e) g b/\rz b h e (c.map (·.2))/\Qq b g.heap.size f k a/\a.length<=i/\∀d n,c=some (d,n)->a=d.filter (yv l o)
def Ow(g i:List UInt8)(h:Nat):Prop:=∀(f:Nat->Prop) (e:Nat) (c:dj) (a:List ej) (d:List UInt8) (b:World),rz b f e (some d)->(∀k,f k->k<b.heap.size)->Hx h a->Aq b c.a a->c.n=a.length->(∀j,c.a=some j->j.block<b.heap.size/\j.block≠e)->a.length+d.length<=1000000000->
 CP 109 #[.pointer (some ⟨e,0,none⟩),.agg #[.int .i64 h,c.val],.string ⟨g.toArray⟩,.string ⟨i.toArray⟩] b (aQ b f e g i (a.length+d.length) (Kq g i h a d))
theorem rz.cells{c:World}{f:Nat->Prop}{b:Nat}{e:Option (List UInt8)}(a:rz c f b e):c.cell? ⟨b,1,none⟩=some (.bool e.isNone)/\c.frozen? ⟨b,1,none⟩=false:=by
 obtain⟨i,h,d,a,g⟩:=a;refine⟨?_,a.row.frozen 1⟩;have:c.cell? ⟨b,1,none⟩=some (.bool d):=aj.cell a.row 1 (by simp);rw[this,g];cases d<;>rfl
theorem aV{j:Array Oper}{rest:List Oper}{e:Oper}{f:Act}{b:World}{i:Exit->Act->World->Prop}(n:e.guard=none)(c:Operand)(o:e.op=.convert 9 38 c)(a:List UInt8)(g:f.eval c=.string ⟨a.toArray⟩)
  (k:∀(d:dj) (h:World),BS h d a->BB b h->(∀c,d.a=some c->b.heap.size<=c.block)->wpList Tryz.prog j i rest (f.put e.dst (.slice d.a d.n d.cap)) h):wpList Tryz.prog j i (e::rest) f b:=by
 refine wpList_plain n fun p l=>?_;have q:=run_bytes_of_string (P:=Tryz.prog) b 9 38 5 ⟨a.toArray⟩ Tryz.underlying9 Tryz.underlying38 Tryz.underlying5;unfold Oper.wp execOp;simp only[o,Option.map,g];go_simp;refine l _ _ (k ⟨some ⟨b.heap.size,0,none⟩,a.length,grownCap b a.length 0 5⟩ _ ?_ ?_ ?_)
 .have m:=(BS.ofString b ⟨a.toArray⟩ (grownCap b a.length 0 5) 5 ((bytesRow ⟨a.toArray⟩ (grownCap b a.length 0 5)).size,(bytesRow ⟨a.toArray⟩ (grownCap b a.length 0 5)).size+1)).drew;simpa[YW]using m
 .exact tO.drew
 .intro c g;cases g;exact TM _
theorem gF(e f:List UInt8):Ow e f 0:=by
 intro G t c b K d S a1 J a8 R a4 an;have bd:=S.lt;have z:Below d.heap.size d (d.alloc (.cells #[.int .i64 0,.slice c.a c.n c.cap] 80)):=tO;have ad:Hd (bj (fun a=>a=t) d (d.alloc (.cells #[.int .i64 0,.slice c.a c.n c.cap] 80))):=bj.of_below_all z;have ah:Hd (aj (d.alloc (.cells #[.int .i64 0,.slice c.a c.n c.cap] 80)) d.heap.size 80 [.int .i64 0,.slice c.a c.n c.cap]):=aj.new d _ _;have ai:Hd (rz (d.alloc (.cells #[.int .i64 0,.slice c.a c.n c.cap] 80)) G t (some K)):=S.below z;have ak:Hd (∀wr,bj (fun a=>a=t) d wr->Aq wr c.a b):=fun wr av=>jj.frame a8 av (fun k r h=>(a4 k r).2 h);have L:Hd (c.n=b.length):=R;have W:Hd (Hx 0 b):=J;have V:Hd (b.length<=60):=J.len;have au:(c.n:Int)<=60:=by rw[R];have:=J.len;omega
 have ae:Hd (∀a,G a->a<d.heap.size):=a1;clear S a1 J a8 R a4 an z;show CP 109 #[.pointer (some ⟨t,0,none⟩),.agg #[.int .i64 0,.slice c.a c.n c.cap],.string ⟨e.toArray⟩,.string ⟨f.toArray⟩] d (aQ d G t e f (b.length+K.length) (some (b,K)));go_enter Tryz.func109,Tryz.ntmps109;go_wp2
 go_loopw [9,10,11,12,13,14] (fun aE E _ _ _ _ wr=>∃(a:Nat) (g:dj) (j:List (dj×dj)),a<=b.length/\E=.int .i64 a/\aE=.slice g.a g.n g.cap/\Hd (bj (fun a=>a=t) d wr)/\Hd (aj wr d.heap.size 80 [.int .i64 0,.slice c.a c.n c.cap])/\Hd (rz wr G t (some K))/\Hd (Qq wr d.heap.size g j ((b.take a).filter (yv e f)))) (fun _ E _ _ _ _ _=>b.length - (intOf E).toNat)
 case atStart=>exact⟨0,⟨none,0,0⟩,[],by omega,by simp,rfl,ad,ah,ai,Qq.nil _ _⟩
 case round=>
  obtain⟨a,g,j,ba,rfl,rfl,y,i,B,m⟩:=hrel;obtain⟨aP,b5⟩:=B.o.cells;have aI:=i.o.cell 0 (by simp);have a9:=i.o.cell 1 (by simp);simp only[cN,gN,Option.isNone_some]at aI a9 aP;have bb:(a:Int)<=60:=by have:=V.o;omega
  have bc:d.heap.size<wr.heap.size:=i.o.lt;by_cases w:a<b.length
  .have a6:(a:Int)<c.n:=by rw[L.o];omega
   obtain⟨b1,bf,a3,b7,aa,ab,b0⟩:=Aq.cells (ak.o wr y.o) a w;unfold Hz at aa ab;have M:Hd ((b.take (a+1)).filter (yv e f)=(b.take a).filter (yv e f)++(if yv e f b[a]=true then[b[a]]else[])):=by
    unfold Hd;rw[RN w,List.filter_append]
    congr 1
    cases P:yv e f b[a]<;>simp[P]
   have F:Hd (yv e f b[a]=(!(Op.bytesLess b[a].key e)&&Op.bytesLess b[a].key f)):=rfl;have af:Hd (b[a].key.length<=12):=(W.o.key _ (bN w)).2;have ag:Hd (b[a].more.length<=12):=W.o.low rfl _ (bN w);obtain⟨b2,b4,b3⟩:=c;simp only at a3 a6 L a9 au;subst a3;generalize b[a]=k at*;obtain⟨l,s,u⟩:=k;simp only at aa ab b0 F af ag;by_cases z:Op.bytesLess l e=true
   .have C:Hd ((b.take (a+1)).filter (yv e f)=(b.take a).filter (yv e f)):=by unfold Hd;rw[M.o,F.o,z];simp
    go_wp2;have p:Below wr.heap.size wr (wr.alloc (.cells #[.string ⟨l.toArray⟩,.string ⟨s.toArray⟩,.int .i64 u] 84)):=tO;refine⟨⟨a+1,g,j,w,by go_num,rfl,y.o.trans (bj.of_below_all p),i.o.below i.o.lt p,B.o.below p,?_⟩,by simp[intOf];omega⟩;unfold Hd;rw[C.o];exact m.o.below p
   .have Z:Op.bytesLess l e=false:=by simpa using z
    by_cases a0:Op.bytesLess l f=true
    .have C:Hd ((b.take (a+1)).filter (yv e f)=(b.take a).filter (yv e f)++[⟨l,s,u⟩]):=by unfold Hd;rw[M.o,F.o,Z,a0];simp
     have x:Hd (BB wr (wr.alloc (.cells #[.string ⟨l.toArray⟩,.string ⟨s.toArray⟩,.int .i64 u] 84))):=tO;have Y:Hd (aj (wr.alloc (.cells #[.string ⟨l.toArray⟩,.string ⟨s.toArray⟩,.int .i64 u] 84)) wr.heap.size 84 [.string ⟨l.toArray⟩,.string ⟨s.toArray⟩,.int .i64 u]):=aj.new wr _ _;have U:Hd (j.length<=60):=by
      unfold Hd;rw[m.o.len];exact WM (dbj _ _) (WM (List.length_take_le' _ _) V.o)
     have X:Hd (d.heap.size<=wr.heap.size):=y.o.size;go_wp2_with (first
      |(refine aV (by rfl) (.tmp 49) (by rfl) l (by rfl) ?_;intro n aR ap D aA;have aT:=(aj.below Y.o Y.o.lt D).cell 1 (by simp);simp only[cN,gN]at aT)
      |(refine aV (by rfl) (.tmp 52) (by rfl) s (by rfl) ?_;intro o A ar Q aB)
      |(at_builtin;have q:Hd (BB wr (A.alloc (.cells #[.slice n.a n.n n.cap,.slice o.a o.n o.cap] 164))):=(((x.o.trans (D.mono x.o.size)).trans (Q.mono (WM x.o.size D.size))).alloc (WM (WM x.o.size D.size) Q.size) _);refine rq (by rfl) (.tmp 47) (.tmp 55) 63 (by rfl) d.heap.size 164 _ 2 48 Tryz.underlying63 Tryz.infoEnt rfl (by decide) (.slice g.a g.n g.cap) j.length (xz j) (by rfl) (lj m.o.own q.o) (some ⟨A.heap.size,0,none⟩) 1 1 (xz [(n,o)]) (by rfl) rfl (jj.alloc_new A (xz [(n,o)]) _) (fun P=>by cases P) (iZ _) (by have:=U.o;unfold maxLen;omega) (by have:=U.o;omega) (WM X.o q.o.size) ?_;intro bh aS a7 I ao;obtain⟨N,O,aD,_⟩:=Nj a7;subst aD))
     have a2:Below A.heap.size A (A.alloc (.cells #[.slice n.a n.n n.cap,.slice o.a o.n o.cap] 164)):=tO;have T:=m.o.below q.o;have b8:wr.heap.size<=aR.heap.size:=WM x.o.size D.size;have ac:Qq aS d.heap.size ⟨N,j.length+1,O⟩ (j++[(n,o)]) ((b.take a).filter (yv e f)++[⟨l,s,u⟩]):=by
      refine Qq.push (v:=g) (v':=⟨N,j.length+1,O⟩) T rfl (fun E H b6=>?_) (fun h a5 k r=>?_) a7 I ao
      .simp only[VN]at H;obtain rfl:E=0:=by omega
       exact⟨(ap.below Q).below a2,ar.below a2⟩
      .simp only[eN]at a5;subst a5;have b9:wr.heap.size<=k.block:=by
        rcases r with r|r
        .have:=aA k r;have:=x.o.size;omega
        .have:=aB k r;omega
       exact⟨by have:=X.o;omega,fun h=>by have:=(m.o.own.lt _ h).2;omega⟩
     have ax:∀k,k<d.heap.size->(Value.slice g.a g.n g.cap).ownBlock=some k->k=t:=fun k r h=>by have:=(m.o.own.lt k h).1;omega
     refine⟨⟨a+1,⟨N,j.length+1,O⟩,j++[(n,o)],w,by go_num,rfl,(y.o.trans (bj.of_below_all q.o)).inside I ax,aj.of_block (i.o.below i.o.lt q.o) (I.block _ (aj.lt (i.o.below i.o.lt q.o)) (fun h=>xj T.own (i.o.below i.o.lt q.o) (by decide) h)),(B.o.below q.o).frame I (fun h=>by have:=(m.o.own.lt _ h).1;omega) (fun aO aC h=>by have:=(m.o.own.lt _ h).1;have:=ae.o aO aC;omega),?_⟩,by simp[intOf];omega⟩;unfold Hd;rw[C.o];exact ac
    .have am:Op.bytesLess l f=false:=by simpa using a0
     have C:Hd ((b.take (a+1)).filter (yv e f)=(b.take a).filter (yv e f)):=by unfold Hd;rw[M.o,F.o,Z,am];simp
     go_wp2;have p:Below wr.heap.size wr (wr.alloc (.cells #[.string ⟨l.toArray⟩,.string ⟨s.toArray⟩,.int .i64 u] 84)):=tO;refine⟨⟨a+1,g,j,w,by go_num,rfl,y.o.trans (bj.of_below_all p),i.o.below i.o.lt p,B.o.below p,?_⟩,by simp[intOf];omega⟩;unfold Hd;rw[C.o];exact m.o.below p
  .have a6:¬(a:Int)<c.n:=by rw[L.o];omega
   have al:Hd (b.take a=b):=aaj (by omega);go_wp2;go_ret;have H:=m.o;rw[al.o]at H;exact⟨g,j,_,rfl,y.o,B.o,H,by have:=dbj (yv e f) b;omega,fun be bg h=>by cases h;rfl⟩
def Qk(a c:List UInt8)(b:Nat)(d:List ej)(f:List UInt8)(e:Nat):Option (List ej×List UInt8):=(Ry d a c e).foldlM (Jv (Kq a c b) b) ([],f)
theorem sU{a c:List UInt8}{b:Nat}{d:List ej}{f:List UInt8}{e:Nat}(h:gq d e a c=true):Qk a c b d f (e+1)=(Qk a c b d f e).bind (fun g=>Jv (Kq a c b) b g (d.getD e BQ)):=by
 unfold Qk;rw[kX _ _ _ _ h,List.foldlM_append];cases (Ry d a c e).foldlM (Jv (Kq a c b) b) ([],f)with
 |none=>rfl
 |some g=>simp
theorem MG{a d:List UInt8}{e:Nat}{b:List ej}{f:List UInt8}{c:Nat}(g:gq b c a d=false):Qk a d e b f (c+1)=Qk a d e b f c:=by
 unfold Qk;rw[JV _ _ _ _ g]
theorem pK{c f:List UInt8}{i:Nat}{e:List ej}{j:List UInt8}{b:Nat}(d:Qk c f i e j b=none):∀a,b<=a->Qk c f i e j a=none
 |0,l=>by
  obtain rfl:b=0:=by omega
  exact d
 |a+1,l=>by
  by_cases k:b=a+1
  .subst k;exact d
  .have h:=pK d a (by omega);cases g:gq e a c f
   .rw[MG g];exact h
   .rw[sU g,h];rfl
theorem NG{e:World}{b f k j:Nat}{d:dj}{l:List Value}(g:e.ownsRow b f k d.val j l):∀a,d.a=some a->b<=a.block/\a.block<e.heap.size:=fun a i=>by
 obtain⟨m,n,c,_,_,h,_⟩:=Nj g;unfold dj.val at c;cases c;exact(h a i).2.2
theorem iF(f g:List UInt8)(i:Nat)(cg:Ow f g i):Ow f g (i+1):=by
 intro F l h b k d bc bO a8 cd b7 bT bP;have dA:=bc.lt;have da:i+1<=6:=a8.le6;obtain⟨o,ba⟩:∃o,o=i+1:=⟨_,rfl⟩;rw[show Kq f g (i+1) b k=Qk f g i b k b.length from rfl];obtain⟨ag,b4⟩:∃ag,ag=b.length+k.length:=⟨_,rfl⟩;rw[<-ba,<-b4];have b3:Below d.heap.size d (d.alloc (.cells #[.int .i64 o,.slice h.a h.n h.cap] 80)):=tO;have cn:Hd (bj (fun a=>a=l) d (d.alloc (.cells #[.int .i64 o,.slice h.a h.n h.cap] 80))):=bj.of_below_all b3;have ct:Hd (aj (d.alloc (.cells #[.int .i64 o,.slice h.a h.n h.cap] 80)) d.heap.size 80 [.int .i64 o,.slice h.a h.n h.cap]):=aj.new d _ _;have cu:Hd (rz (d.alloc (.cells #[.int .i64 o,.slice h.a h.n h.cap] 80)) F l (some k)):=bc.below b3;have cC:Hd (∀wr,bj (fun a=>a=l) d wr->Aq wr h.a b):=fun wr d5=>jj.frame cd d5 (fun y X c=>(bT y X).2 c);have S:Hd (h.n=b.length):=b7;have dg:Hd (Hx (i+1) b):=a8;have bp:Hd (b.length<=60):=a8.len;have d3:(h.n:Int)<=60:=by rw[b7];have:=a8.len;omega
 have av:Hd (∀a,F a->a<d.heap.size):=bO;have aA:Hd (b.length+k.length<=1000000000):=bP;have bs:Hd (o=i+1):=ba;have bv:Hd (ag=b.length+k.length):=b4;have dm:(o:Int)<=6:=by omega
 have dl:((o:Int)==0)=false:=by simp;omega
 have co:Hd (Ow f g i):=cg;clear bc bO a8 cd b7 bT bP b3 cg ba da b4;unfold dj.val;go_enter Tryz.func109,Tryz.ntmps109;go_wp2
 go_loopw [9,10,11,12,13,14] (fun de bf _ _ _ _ wr=>∃(a:Nat) (j:dj) (n:List (dj×dj)) (r:List ej),a<=b.length/\bf=.int .i64 a/\de=.slice j.a j.n j.cap/\Hd (bj (fun a=>a=l) d wr)/\Hd (aj wr d.heap.size 80 [.int .i64 o,.slice h.a h.n h.cap])/\Hd (rz wr F l ((Qk f g i b k a).map (·.2)))/\Hd (Qq wr d.heap.size j n r)/\Hd (r.length<=k.length)/\Hd (∀x A,Qk f g i b k a=some (x,A)->r=x.filter (yv f g)/\x.length+A.length<=k.length)) (fun _ bf _ _ _ _ _=>b.length - (intOf bf).toNat)
 case atStart=>exact⟨0,⟨none,0,0⟩,[],[],by omega,by simp,rfl,cn,ct,cu,Qq.nil _ _,by unfold Hd;simp,fun x A c=>by cases c;simp⟩
 case round=>
  obtain⟨a,j,n,r,d7,rfl,rfl,M,C,N,a3,a4,bC⟩:=hrel;obtain⟨u,b2⟩:=N.o.cells;have a9:=C.o.cell 0 (by simp);have a0:=C.o.cell 1 (by simp);simp only[cN,gN,Option.isNone_map]at a9 a0 u;have di:(a:Int)<=60:=by have:=bp.o;omega
  have dr:d.heap.size<wr.heap.size:=C.o.lt;cases W:Qk f g i b k a with
  |none=>
   rw[W]at u N;simp only[Option.isNone_none]at u;have ae:Hd (Qk f g i b k b.length=none):=pK W _ d7;have bl:Hd (aQ d F l f g ag none (.returned (.slice j.a j.n j.cap)) wr):=⟨j,n,r,rfl,M.o,N.o,a3.o,by have:=a4.o;have:=bv.o;omega,fun x A c=>by cases c⟩;by_cases K:a<b.length
   .have ao:(a:Int)<h.n:=by rw[S.o];omega
    go_wp2;go_ret;rw[ae.o];exact bl.o
   .have ao:¬(a:Int)<h.n:=by rw[S.o];omega
    go_wp2;go_ret;rw[ae.o];exact bl.o
  |some t=>
   obtain⟨H,B⟩:=t;rw[W]at u N;simp only[Option.isNone_some]at u;obtain⟨b8,c5⟩:=bC.o H B W;have ax:Hd (r=H.filter (yv f g)):=b8;have a5:Hd (H.length+B.length<=k.length):=c5;have aI:Hd (Qk f g i b k a=some (H,B)):=W;have bo:Hd (r.length<=H.length):=by unfold Hd;rw[b8];exact dbj _ _
   clear b8 c5 bC W;by_cases K:a<b.length
   .have ao:(a:Int)<h.n:=by rw[S.o];omega
    have bd:=cC.o wr M.o;obtain⟨aS,bh,bS,d2,bi,bk,cl⟩:=Aq.cells bd a K;unfold Hz at bi bk;have bn:Hd (b.getD a BQ=b[a]):=by unfold Hd;rw[iaj,UM K];rfl
    have b6:Below wr.heap.size wr (wr.alloc (.cells #[.string ⟨b[a].key.toArray⟩,.string ⟨b[a].more.toArray⟩,.int .i64 (b[a].below:Int)] 84)):=tO;have U:Hd (Calls _ _ _ _ _):=LZ o h.a h.cap b a K f g _ (by have:=bp.o;omega) (jj.below_all bd b6);rw[<-S.o]at U;have ab:Hd (BB wr (wr.alloc (.cells #[.string ⟨b[a].key.toArray⟩,.string ⟨b[a].more.toArray⟩,.int .i64 (b[a].below:Int)] 84))):=b6;have af:Hd (aj (wr.alloc (.cells #[.string ⟨b[a].key.toArray⟩,.string ⟨b[a].more.toArray⟩,.int .i64 (b[a].below:Int)] 84)) wr.heap.size 84 [.string ⟨b[a].key.toArray⟩,.string ⟨b[a].more.toArray⟩,.int .i64 (b[a].below:Int)]):=aj.new wr _ _;have bD:Hd (d.heap.size<=wr.heap.size):=M.o.size;clear bd b6;unfold Hz at U;generalize b[a]=y at*;obtain⟨ch,Z,bI⟩:=y;simp only at bi bk cl ab af U;obtain⟨dh,b1,b0⟩:=h;simp only at bS ao S a0 d3 U C;subst bS;go_wp2_with fail;refine U.o.mono ?_;rintro c a1 ⟨rfl,b5⟩;have E:Hd (BB wr a1):=ab.o.trans (b5.mono ab.o.size);have bE:Hd (aj a1 wr.heap.size 84 [.string ⟨ch.toArray⟩,.string ⟨Z.toArray⟩,.int .i64 bI]):=aj.below af.o af.o.lt b5;have ck:=bE.o.cell 1 (by simp);simp only[cN,gN]at ck;have aE:Hd (rz a1 F l (some B)):=N.o.below E.o;clear b5 U ab af bi bk cl;cases be:gq b a f g with
    |false=>
     have T:Hd (Qk f g i b k (a+1)=some (H,B)):=by unfold Hd;rw[MG be];exact aI.o
     go_wp2;refine⟨⟨a+1,j,n,r,K,by go_num,rfl,M.o.trans (bj.of_below_all E.o),C.o.below C.o.lt E.o,?_,a3.o.below E.o,a4,?_⟩,by simp[intOf];omega⟩
     .unfold Hd;rw[T.o];exact aE.o
     .unfold Hd;rw[T.o];intro x A c;cases c;exact⟨ax.o,a5.o⟩
    |true=>
     have T:Hd (Qk f g i b k (a+1)=Jv (Kq f g i) i (H,B) ⟨ch,Z,bI⟩):=by unfold Hd;rw[sU be,aI.o,bn.o];rfl
     have bB:Hd (Calls _ _ _ _ _):=yJ F l (some B) Z a1 aE.o (fun t I=>qN (av.o t I) (WM bD.o E.o.size));clear be bn;go_wp2_with fail;refine bB.o.mono ?_;rintro c q ⟨m,e,rfl,dn,al,cb,c8⟩;have c2:bj (fun a=>a=l) d q:=(M.o.trans (bj.of_below_all E.o)).trans al;have ap:aj q d.heap.size 80 [.int .i64 o,.slice (some ⟨aS,bh,none⟩) b1 b0]:=aj.of_block (C.o.below C.o.lt E.o) (al.block _ (aj.lt (C.o.below C.o.lt E.o)) (by omega));have c1:Qq q d.heap.size j n r:=(a3.o.below E.o).frame al (fun t I=>by omega);have V:Below q.heap.size q (q.alloc (.cells #[.int .i64 m,.slice e.a e.n e.cap] 80)):=tO;have ad:Hd (bj (fun a=>a=l) d (q.alloc (.cells #[.int .i64 m,.slice e.a e.n e.cap] 80))):=c2.trans (bj.of_below_all V);have J:Hd (aj (q.alloc (.cells #[.int .i64 m,.slice e.a e.n e.cap] 80)) d.heap.size 80 [.int .i64 o,.slice (some ⟨aS,bh,none⟩) b1 b0]):=ap.below ap.lt V;have ac:Hd (Qq (q.alloc (.cells #[.int .i64 m,.slice e.a e.n e.cap] 80)) d.heap.size j n r):=c1.below V;have a7:Hd (rz (q.alloc (.cells #[.int .i64 m,.slice e.a e.n e.cap] 80)) F l ((Wq (some B) Z).map (·.2))):=cb.below V;have aD:Hd (aj (q.alloc (.cells #[.int .i64 m,.slice e.a e.n e.cap] 80)) q.heap.size 80 [.int .i64 m,.slice e.a e.n e.cap]):=aj.new q _ _;have bA:Hd (∀(au:Nat) (b:List ej) (A:List UInt8),Wq (some B) Z=some ((au,b),A)->m=au/\jz (q.alloc (.cells #[.int .i64 m,.slice e.a e.n e.cap] 80)) a1.heap.size e.val b):=fun au b A c=>by
      obtain⟨cR,d0⟩:=c8 au b A c;exact⟨cR,lj d0 V⟩
     have ds:d.heap.size<q.heap.size:=ap.lt;have cE:Hd (d.heap.size<=a1.heap.size):=WM bD.o E.o.size;clear c2 ap c1 V cb al c8 bB ck bE aE M C a3 N a9 a0 u b2 d2;unfold dj.val;go_upto_region 12 with fail;generalize q.alloc (.cells #[.int .i64 m,.slice e.a e.n e.cap] 80)=O at*;have dt:q.heap.size<O.heap.size:=aD.o.lt;generalize q.heap.size=dB at*;have du:l<O.heap.size:=a7.o.lt;obtain⟨u,b2⟩:=a7.o.cells;have a9:=J.o.cell 0 (by simp);have a0:=J.o.cell 1 (by simp);have ci:=aD.o.cell 0 (by simp);have aa:=aD.o.cell 1 (by simp);simp only[cN,gN,Option.isNone_map]at a9 a0 u ci aa;have R:Hd (bj (fun a=>a=l) O (O.setCell ⟨l,1,none⟩ (.bool true))):=(bj.refl (fun a=>a=l) _).setCell (p:=⟨l,1,none⟩) rfl _;have dp:l≠d.heap.size:=by omega
     cases z:Wq (some B) Z with
     |none=>
      have a6:Hd (Qk f g i b k (a+1)=none):=by unfold Hd;rw[T.o];unfold Jv;simp only[z]
      rw[z]at u;simp only[Option.isNone_none]at u;clear z;go_wp2;refine⟨⟨a+1,j,n,r,K,by go_num,rfl,ad.o.trans R.o,aj.of_block J.o (R.o.block _ J.o.lt (by omega)),?_,ac.o.frame R.o (fun t I=>by omega),a4,?_⟩,by simp[intOf];omega⟩
      .unfold Hd;rw[a6.o];exact a7.o.bad
      .unfold Hd;rw[a6.o];intro x A c;cases c
     |some t=>
      obtain⟨⟨x,G⟩,D⟩:=t;obtain⟨c4,bb⟩:=bA.o x G D z;have cr:Hd (m=x):=c4;rw[z]at u;simp only[Option.isNone_some]at u;by_cases b9:x=i
      .have dc:((m:Int)==(o:Int) - 1)=true:=by have:=bs.o;simp;omega
       have cv:Hd (rz O F l (some D)):=by have:=a7.o;rw[z]at this;exact this
       have ca:=ry z;have c9:=gJ z;obtain⟨ce,c0⟩:=jj.ofOwn (s:=e) bb;have bw:Hd (Qk f g i b k (a+1)=(Kq f g i G D).map (fun c=>(H++c.1,c.2))):=by
        unfold Hd;rw[T.o];unfold Jv;simp only[z,b9,if_true]
       subst b9;have aO:Hd (Calls _ _ _ _ _):=co.o F l e G D O cv.o (fun t I=>by have:=av.o t I;omega) ca ce c0 (fun y X=>by have:=NG bb y X;have:=cE.o;exact⟨by omega,by omega⟩) (by have:=aA.o;have:=a5.o;omega);have aC:Hd (G.length+D.length+4<=B.length):=c9;obtain rfl:m=x:=cr.o;unfold dj.val at aO;clear ca c9 ce c0 bb c4 z bA;go_wp2_with fail;refine aO.o.mono ?_;rintro c a2 ⟨w,P,Y,rfl,am,cc,ak,c3,bR⟩;have L:Hd (Qq a2 d.heap.size j n r):=ac.o.frame am (fun t I=>by omega);have aP:Hd (Qq a2 O.heap.size w P Y):=ak;obtain⟨cI,cP,ar,cf,c6,_,_⟩:=Nj ak.own;have db:w.a=cI/\w.n=P.length/\w.cap=cP:=by unfold dj.val at ar;simp only[Value.slice.injEq]at ar;exact ar
       obtain⟨cS,ah,cT⟩:=db;subst cS;subst cT;have cD:Hd (jj a2 w.a (xz P)):=cf;have cs:Hd (w.a=none->w.n=0/\w.cap=0):=fun c=>by have:=c6 c;rw[ah];exact⟨this.2,this.1⟩
       have bu:Hd (w.n=P.length):=ah;have br:Hd (n.length+w.n<=k.length):=by unfold Hd;rw[ah,L.o.len,ak.len];have:=bo.o;have:=a5.o;have:=aC.o;omega
       have cp:Hd (Y.length<=G.length+D.length):=c3;have cA:Hd (rz a2 F l ((Kq f g m G D).map (·.2))):=cc;have cB:Hd (∀bg u,Kq f g m G D=some (bg,u)->Y=bg.filter (yv f g)):=bR;have bm:Hd (bj (fun a=>a=l) d a2):=ad.o.trans am;have aB:Hd (aj a2 d.heap.size 80 [.int .i64 o,.slice (some ⟨aS,bh,none⟩) b1 b0]):=aj.of_block J.o (am.block _ J.o.lt (by omega));clear ar cf c6 ah am cc ak c3 bR aO a9 a0 ci aa u b2;unfold dj.val;go_wp2_with (at_builtin;refine rq (by rfl) (.tmp 88) (.tmp 89) 63 (by rfl) d.heap.size 164 _ 2 48 Tryz.underlying63 Tryz.infoEnt rfl (by decide) (.slice j.a j.n j.cap) n.length (xz n) (by rfl) L.o.own w.a w.n w.cap (xz P) (by rfl) (by rw[jK,bu.o]) cD.o cs.o (iZ _) (by have:=br.o;have:=aA.o;unfold maxLen;omega) (by have:=br.o;have:=aA.o;omega) bm.o.size ?_;intro dC df c7 an d1;obtain⟨aR,aT,dd,_⟩:=Nj c7;subst dd);have cm:Qq df d.heap.size ⟨aR,n.length+w.n,aT⟩ (n++P) (r++Y):=by
        refine Qq.push (v:=j) (v':=⟨aR,n.length+w.n,aT⟩) L.o aP.o.len aP.o.bs (fun c d4 y X=>?_) (by rw[<-bu.o];exact c7) an d1;have:=(aP.o.ge c d4 y X).1;exact⟨by have:=ad.o.size;omega,fun c=>by have:=(ac.o.own.lt _ c).2;omega⟩
       have d6:∀y,y<d.heap.size->(Value.slice j.a j.n j.cap).ownBlock=some y->y=l:=fun y X c=>by have:=(L.o.own.lt y c).1;omega
       have d9:(r++Y).length<=k.length:=by rw[XM];have:=bo.o;have:=cp.o;have:=aC.o;have:=a5.o;omega
       refine⟨⟨a+1,⟨aR,n.length+w.n,aT⟩,n++P,r++Y,K,by go_num,rfl,bm.o.inside an d6,aj.of_block aB.o (an.block _ aB.o.lt (fun c=>xj L.o.own aB.o (by decide) c)),?_,cm,d9,?_⟩,by simp[intOf];omega⟩
       .have ai:=cA.o.frame an (fun c=>by have:=(L.o.own.lt _ c).1;omega) (fun t I c=>by have:=(L.o.own.lt _ c).1;have:=av.o t I;omega);unfold Hd;rw[bw.o];cases Q:Kq f g m G D with
        |none=>rw[Q]at ai;exact ai
        |some t=>rw[Q]at ai;exact ai
       .unfold Hd;rw[bw.o];intro bg u c;cases Q:Kq f g m G D with
        |none=>rw[Q]at c;cases c
        |some t=>
         obtain⟨aa,cj⟩:=t;rw[Q]at c;simp only[GN,yN,YN]at c;obtain⟨rfl,rfl⟩:=c;rw[ax.o,cB.o aa cj Q,List.filter_append];refine⟨rfl,?_⟩;have:=BJ f g m G D aa cj Q;have:=aC.o;have:=a5.o;rw[XM];omega
      .have dc:((m:Int)==(o:Int) - 1)=false:=by
        have:=bs.o;have:¬(x+1=o):=by omega
        simp;omega
       have a6:Hd (Qk f g i b k (a+1)=none):=by unfold Hd;rw[T.o];unfold Jv;simp only[z,if_neg b9]
       clear z;go_wp2;refine⟨⟨a+1,j,n,r,K,by go_num,rfl,ad.o.trans R.o,aj.of_block J.o (R.o.block _ J.o.lt (by omega)),?_,ac.o.frame R.o (fun t I=>by omega),a4,?_⟩,by simp[intOf];omega⟩
       .unfold Hd;rw[a6.o];exact a7.o.bad
       .unfold Hd;rw[a6.o];intro x A c;cases c
   .have ao:¬(a:Int)<h.n:=by rw[S.o];omega
    have d8:a=b.length:=by omega
    have ae:Hd (Qk f g i b k b.length=some (H,B)):=by unfold Hd;rw[<-d8];exact aI.o
    go_wp2;go_ret;rw[ae.o];exact⟨j,n,r,rfl,M.o,N.o,a3.o,by have:=a4.o;have:=bv.o;omega,fun x A c=>by cases c;exact ax.o⟩
theorem bV(a b:List UInt8):∀d,Ow a b d
 |0=>gF a b
 |c+1=>iF a b c (bV a b c)
end Go.Proofs.YtekegfbjbainhaaGreat
