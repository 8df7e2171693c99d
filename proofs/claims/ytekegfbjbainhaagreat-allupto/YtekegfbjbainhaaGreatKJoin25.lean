import Derived.Test.YtekegfbjbainhaaGreatKJoin24
import Derived.Test.YtekegfbjbainhaaGreatKJoin22
import Derived.Deep.RegionWith
import Derived.Deep.DeepCutAuto
set_option maxRecDepth 100000
set_option maxHeartbeats 8000000
set_option linter.unusedVariables false
set_option linter.unusedSimpArgs false
namespace Go.Proofs.YtekegfbjbainhaaGreat
open Go.RowKit
attribute [local go_sem↓] Go.wp_at_zero Go.wp_at_succ
def QM(g:World)(b:Nat->Prop)(f:Nat)(j:Option ((Nat×List ej)×List UInt8))(d:Ending)(a:World):Prop:=
 bj (fun i=>i=f) g a/\match j with
  |none=>d=mz
  |some ((e,h),k)=>∃(c:dj) (l:List Pj),d=.returned (.agg #[.int .i64 e,c.val])/\lz e a b g.heap.size c l h/\iz a b f k
theorem jM(c b:UInt8)(a:List UInt8)(e:List UInt8):Wq (some (c::b::a)) e=match mj (256*c.toNat+b.toNat) (some a)with
  |none=>none
  |some i=>match Xj (oq (256*c.toNat+b.toNat) (some a))with
   |none=>none
   |some h=>if Aj (oq (256*c.toNat+b.toNat) (some a))=e then some (h,i)else none:=by
 have d:mj 1 (some (c::b::a))=some (b::a):=by show(if 1<=(c::b::a).length then some ((c::b::a).drop 1)else none)=_;rw[if_pos (by simp)];rfl
 have f:mj 1 (some (b::a))=some a:=by show(if 1<=(b::a).length then some ((b::a).drop 1)else none)=_;rw[if_pos (by simp)];rfl
 have g:bZ (some (c::b::a))=256*c.toNat+b.toNat:=by unfold bZ;rw[d];rfl
 have j:fY (some (c::b::a))=oq (256*c.toNat+b.toNat) (some a):=by unfold fY;rw[g,d,f]
 unfold Wq;rw[g,j,d,f];cases mj (256*c.toNat+b.toNat) (some a)with
 |none=>rfl
 |some i=>
  cases Xj (oq (256*c.toNat+b.toNat) (some a))with
  |none=>rfl
  |some h=>rfl
theorem jY(m:Nat->Prop)(n:Nat)(E W:List UInt8)(a:World)(F:iz a m n E)(aT:∀j,m j->j<a.heap.size)(b1:W.length=8):
  CP 104 #[.pointer (some ⟨n,0,none⟩),dV W] a (QM a m n (Wq (some E) W)):=by
 obtain⟨b,c,d,e,f,g,h,i,rfl⟩:=uj W b1;have b2:dV [b,c,d,e,f,g,h,i]=.agg (cO b c d e f g h i):=rfl;rw[b2];have ac:Below a.heap.size a ((a.alloc (.cells (cO b c d e f g h i) 36)).alloc (.cells #[.int .i64 0,.slice none 0 0] 171)):=tO.alloc (by simp) _;have a3:Hd (aj ((a.alloc (.cells (cO b c d e f g h i) 36)).alloc (.cells #[.int .i64 0,.slice none 0 0] 171)) a.heap.size 36 ([b,c,d,e,f,g,h,i].map fj)):=(aj.new a 36 ([b,c,d,e,f,g,h,i].map fj)).alloc _;have a8:Hd (aj ((a.alloc (.cells (cO b c d e f g h i) 36)).alloc (.cells #[.int .i64 0,.slice none 0 0] 171)) (a.heap.size+1) 171 [.int .i64 0,.slice none 0 0]):=aj.new_at _ _ _ _ (by simp);have cv:=F.lt;have ak:=F.below ac;have ax:Hd (∀j,m j->j<a.heap.size):=aT;have bw:Hd (BB a _):=ac;have cn:Hd (((a.alloc (.cells (cO b c d e f g h i) 36)).alloc (.cells #[.int .i64 0,.slice none 0 0] 171)).heap.size=a.heap.size+2):=by unfold Hd;simp
 clear F aT b1 b2 ac;go_enter Tryz.func104,Tryz.ntmps104;go_upto_region 1 with fail;generalize (a.alloc (.cells (cO b c d e f g h i) 36)).alloc (.cells #[.int .i64 0,.slice none 0 0] 171)=B at*;have ar:Hd (bj (fun j=>j=n) a B):=bj.of_below_all bw.o;by_cases A:2<=E.length
 .obtain⟨q,r,l,rfl⟩:∃q r l,E=q::r::l:=by
   match E,A with
   |q::r::l,_=>exact⟨q,r,l,rfl⟩
  have aO:Hd (Calls _ _ _ _ _):=mX m n 2 (q::r::l) B ak A;have aP:Hd (Wq (some (q::r::l)) [b,c,d,e,f,g,h,i]=_):=jM q r l [b,c,d,e,f,g,h,i];go_wp2_with fail;refine aO.o.mono ?_;rintro t w ⟨bk,rfl,a0,cj,a2,c9,ai⟩;have b7:bk.n=2:=by have:=a2.bs.n;simpa using this
  obtain⟨aR,bi,ae,c7,aS⟩:=a2.bs.sl 0 (by simp);obtain⟨co,cI,b0,c8,X⟩:=a2.bs.sl 1 (by simp);rw[ae]at b0;cases b0;have c4:w.cell? ⟨aR,bi,none⟩=some (.int .u8 q.toNat):=aS;have c5:w.cell? ⟨aR,bi+1,none⟩=some (.int .u8 r.toNat):=X;have au:Hd (bj (fun j=>j=n) a w):=ar.o.trans a0;have an:Hd (aj w a.heap.size 36 ([b,c,d,e,f,g,h,i].map fj)):=aj.of_block a3.o (a0.block _ a3.o.lt (by omega));have aC:Hd (aj w (a.heap.size+1) 171 [.int .i64 0,.slice none 0 0]):=aj.of_block a8.o (a0.block _ a8.o.lt (by omega));have aE:Hd (iz w m n l):=ai;have cA:=q.toNat_lt;have cB:=r.toNat_lt;have ab:Hd (Calls _ _ _ _ _):=jZ m n (256*q.toNat+r.toNat) l w.drew (ai.below ((VM _ _).drew));generalize q.toNat=y at*;generalize r.toNat=z at*;obtain⟨cP,cS,cR⟩:=bk;simp only at ae b7;subst ae;subst b7;clear aO a0 cj a2 c9 ai aS X c7 c8 ak a3 a8;unfold dj.val;go_upto_region 2 with fail;have b8:IntKind.i64.wrap (IntKind.i64.wrap (IntKind.i64.wrap (y:Int)*256)+IntKind.i64.wrap (z:Int))=((256*y+z:Nat):Int):=by simp only[qaj];omega
  have a5:Hd (bj (fun j=>j=n) a w.drew):=au.o.drew;have bO:Hd (iz w.drew m n l):=aE.o.below ((VM _ _).drew);have aA:Hd (256*y+z<=100000):=by unfold Hd;omega
  have a4:Hd (aj w.drew a.heap.size 36 ([b,c,d,e,f,g,h,i].map fj)):=aj.of_block an.o rfl;have a9:Hd (aj w.drew (a.heap.size+1) 171 [.int .i64 0,.slice none 0 0]):=aj.of_block aC.o rfl;rw[<-b8]at ab;have O:Hd (Wq (some (q::r::l)) [b,c,d,e,f,g,h,i]=match mj (256*y+z) (some l)with
   |none=>none
   |some u=>match Xj (oq (256*y+z) (some l))with
    |none=>none
    |some N=>if Aj (oq (256*y+z) (some l))=[b,c,d,e,f,g,h,i]then some (N,u)else none):=aP.o
  clear aP;clear b8
  go_cut [6] (fun c3 K=>∃(v:dj) (u:List UInt8),c3=.slice v.a v.n v.cap/\Hd (bj (fun j=>j=n) a K)/\Hd (Cq K m v (oq (256*y+z) (some l)))/\Hd (iz K m n u)/\Hd (mj (256*y+z) (some l)=some u)/\Hd (aj K a.heap.size 36 ([b,c,d,e,f,g,h,i].map fj))/\Hd (aj K (a.heap.size+1) 171 [.int .i64 0,.slice none 0 0]))
  case first=>
   go_region_with (go_at_call 133;refine ab.o.mono ?_;rintro t cT ⟨a1,cC,D⟩;cases Y:mj (256*y+z) (some l);(rw[Y]at D;obtain rfl:t=mz:=D;unfold mz;refine⟨rfl,a5.o.trans a1,?_⟩;rw[O.o,Y];rfl);(rename_i u;rw[Y]at D;obtain⟨v,rfl,ch,cf⟩:=D;unfold dj.val))
   all_goals
    go_wp2_with fail;go_meet
    case rel=>exact⟨v,u,rfl,a5.o.trans a1,ch,cf,Y,aj.of_block a4.o (a1.block _ a4.o.lt (by omega)),aj.of_block a9.o (a1.block _ a9.o.lt (by omega))⟩
  case rest=>
   obtain⟨v,u,rfl,bD,bT,bP,am,bB,bE⟩:=hcut;rw[am.o]at O;have bA:Hd ((oq (256*y+z) (some l)).length<=100000):=WM (nJ _ _) aA.o;generalize oq (256*y+z) (some l)=s at*;clear ab a5 bO a4 a9 c4 c5 au an aC aE am aA;have a6:Hd (bj (fun j=>j=n) a wc.drew):=bD.o.drew;have x:Hd (aj wc.drew a.heap.size 36 ([b,c,d,e,f,g,h,i].map fj)):=aj.of_block bB.o rfl;have aa:Hd (aj wc.drew (a.heap.size+1) 171 [.int .i64 0,.slice none 0 0]):=aj.of_block bE.o rfl;have V:Hd (Cq wc.drew m v s):=bT.o.below ((VM _ _).drew);have aI:Hd (iz wc.drew m n u):=bP.o.below ((VM _ _).drew);have a7:Hd (Calls _ _ _ _ _):=cJ v.a v.n v.cap s wc.drew V.o.bs.n (by have:=bA.o;unfold maxLen;omega) V.o.bs.sl;obtain⟨bl,bm,bn,bo,bp,br,bs,bu,af⟩:=uj (Aj s) rfl;have c2:Hd (By s=.agg (cO bl bm bn bo bp br bs bu)):=by unfold Hd;rw[kx,af];rfl
   rw[c2.o]at a7;obtain⟨R,ag⟩:∃R,R=(Aj s==[b,c,d,e,f,g,h,i]):=⟨_,rfl⟩;have ap:Hd (R=(Aj s==[b,c,d,e,f,g,h,i])):=ag;have ca:∀B,(Op.equalIn 10000 36 (Value.agg (cO bl bm bn bo bp br bs bu)) (Value.agg (cO b c d e f g h i))).run Tryz.prog B=.ok R B:=fun B=>by
    have F:=run_equalIn_bytes (P:=Tryz.prog) B 9998 36 5 8 Tryz.underlying36 Tryz.underlying5 Tryz.sizeU8 (Aj s) [b,c,d,e,f,g,h,i] rfl rfl;rw[<-ag,af]at F;exact F
   have ba:wc.drew.cell? ⟨a.heap.size,0,none⟩=some (.int .u8 b.toNat):=aj.cell x.o 0 (by simp);have bb:wc.drew.cell? ⟨a.heap.size,1,none⟩=some (.int .u8 c.toNat):=aj.cell x.o 1 (by simp);have bc:wc.drew.cell? ⟨a.heap.size,2,none⟩=some (.int .u8 d.toNat):=aj.cell x.o 2 (by simp);have bd:wc.drew.cell? ⟨a.heap.size,3,none⟩=some (.int .u8 e.toNat):=aj.cell x.o 3 (by simp);have be:wc.drew.cell? ⟨a.heap.size,4,none⟩=some (.int .u8 f.toNat):=aj.cell x.o 4 (by simp);have bf:wc.drew.cell? ⟨a.heap.size,5,none⟩=some (.int .u8 g.toNat):=aj.cell x.o 5 (by simp);have bg:wc.drew.cell? ⟨a.heap.size,6,none⟩=some (.int .u8 h.toNat):=aj.cell x.o 6 (by simp);have bh:wc.drew.cell? ⟨a.heap.size,7,none⟩=some (.int .u8 i.toNat):=aj.cell x.o 7 (by simp);clear af ag;unfold dj.val at*;go_upto_region 3 with fail
   go_cut [] (fun K=>Hd (Below wc.drew.heap.size wc.drew K)/\Hd (Aj s=[b,c,d,e,f,g,h,i]))
   case first=>
    go_region_with (first
     |(go_at_call 67;refine a7.o.mono ?_;rintro t G ⟨rfl,ad⟩;have C:=aj.below x.o x.o.lt ad;have ba:G.cell? ⟨a.heap.size,0,none⟩=some (.int .u8 b.toNat):=aj.cell C 0 (by simp);have bb:G.cell? ⟨a.heap.size,1,none⟩=some (.int .u8 c.toNat):=aj.cell C 1 (by simp);have bc:G.cell? ⟨a.heap.size,2,none⟩=some (.int .u8 d.toNat):=aj.cell C 2 (by simp);have bd:G.cell? ⟨a.heap.size,3,none⟩=some (.int .u8 e.toNat):=aj.cell C 3 (by simp);have be:G.cell? ⟨a.heap.size,4,none⟩=some (.int .u8 f.toNat):=aj.cell C 4 (by simp);have bf:G.cell? ⟨a.heap.size,5,none⟩=some (.int .u8 g.toNat):=aj.cell C 5 (by simp);have bg:G.cell? ⟨a.heap.size,6,none⟩=some (.int .u8 h.toNat):=aj.cell C 6 (by simp);have bh:G.cell? ⟨a.heap.size,7,none⟩=some (.int .u8 i.toNat):=aj.cell C 7 (by simp);clear C)
     |(go_at_call 132;cases b4:R;(refine(Ay _).mono ?_;rintro t cm ⟨rfl,al⟩;subst al;unfold mz;refine⟨rfl,a6.o.trans (bj.of_below_all ad),?_⟩;have cd:Aj s≠[b,c,d,e,f,g,h,i]:=(fun F=>by have A:=ap.o;rw[b4,F]at A;simp at A);have ce:Wq (some (q::r::l)) [b,c,d,e,f,g,h,i]=none:=(by rw[O.o];cases M:Xj s;rfl;simp only[if_neg cd]);rw[ce];rfl);(refine(Ev _).mono ?_;rintro t cm ⟨rfl,al⟩;subst al)))
    all_goals
     go_wp2_with fail;go_meet
     case rel=>exact⟨ad,by unfold Hd;have A:=ap.o;rw[b4]at A;simpa using A.symm⟩
   case rest=>
    obtain⟨T,bC⟩:=hcut;clear ba bb bc bd be bf bg bh ca a7;have c0:Hd (Cq wc m v s):=V.o.below T.o;have bR:Hd (iz wc m n u):=aI.o.below T.o;have U:Hd (bj (fun j=>j=n) a wc):=a6.o.trans (bj.of_below_all T.o);have aD:Hd (aj wc (a.heap.size+1) 171 [.int .i64 0,.slice none 0 0]):=aj.below aa.o aa.o.lt T.o;have b6:∀j,m j->j<wc.heap.size:=fun j cc=>qN (ax.o j cc) U.o.size;have bI:Hd (Calls _ _ _ _ _):=eF m v s wc c0.o b6;have aB:Hd (Wq (some (q::r::l)) [b,c,d,e,f,g,h,i]=match Xj s with
      |none=>none
      |some N=>some (N,u)):=by
     unfold Hd;rw[O.o];cases Xj s with
     |none=>rfl
     |some N=>simp only[if_pos bC.o]
    clear a6 x aa V aI O b6;go_wp2_with fail;refine bI.o.mono ?_;rintro t H ⟨Z,D⟩;have av:Hd (bj (fun j=>j=n) a H):=U.o.inside (bj.of_below Z) (fun J S t=>by have:=U.o.size;omega);have L:Hd (aj H (a.heap.size+1) 171 [.int .i64 0,.slice none 0 0]):=aj.below aD.o aD.o.lt Z;have bS:Hd (iz H m n u):=bR.o.below Z;cases M:Xj s with
    |none=>
     rw[M]at D;obtain rfl:t=mz:=D;have Q:Hd (Wq (some (q::r::l)) [b,c,d,e,f,g,h,i]=none):=by unfold Hd;rw[aB.o,M]
     unfold mz;go_wp2;refine⟨rfl,av.o,?_⟩;rw[Q.o];rfl
    |some N=>
     obtain⟨I,b9⟩:=N;rw[M]at D;obtain⟨o,bv,rfl,b3⟩:=D;have Q:Hd (Wq (some (q::r::l)) [b,c,d,e,f,g,h,i]=some ((I,b9),u)):=by unfold Hd;rw[aB.o,M]
     have ao:Hd (lz I H m wc.heap.size o bv b9):=b3;have ck:=L.o.cell 0 (by simp);have cl:=L.o.cell 1 (by simp);have ct:=L.o.frozen 0;have cu:=L.o.frozen 1;simp only[cN,gN]at ck cl;clear b3 Z M;unfold dj.val;go_wp2;have ah:bj (fun j=>j=a.heap.size+1) H ((H.setCell ⟨a.heap.size+1,0,none⟩ (.int .i64 I)).setCell ⟨a.heap.size+1,1,none⟩ (.slice o.a o.n o.cap)):=((bj.refl (fun j=>j=a.heap.size+1) H).setCell (p:=⟨a.heap.size+1,0,none⟩) rfl _).setCell (p:=⟨a.heap.size+1,1,none⟩) rfl _;have cg:aj ((H.setCell ⟨a.heap.size+1,0,none⟩ (.int .i64 I)).setCell ⟨a.heap.size+1,1,none⟩ (.slice o.a o.n o.cap)) (a.heap.size+1) 171 [.int .i64 I,.slice o.a o.n o.cap]:=by simpa using(aj.set L.o 0 (.int .i64 I)).set 1 (.slice o.a o.n o.cap)
     have b5:∀J,m J->¬J=a.heap.size+1:=fun J S t=>by have:=ax.o J S;omega
     refine Cv (k:=4) (cs:=[.int .i64 I,.slice o.a o.n o.cap]) rfl rfl cg Tryz.underlying171 rfl Tryz.sizePgP rfl ⟨av.o.inside ah (fun J S t=>by omega),?_⟩;rw[Q.o];exact⟨o,bv,rfl,(ao.o.frame ah (fun J S t=>xj ao.o.own L.o (by decide) (by rw[S,t])) b5).toBase U.o.size,bS.o.frame ah (by omega) b5⟩
 .have c1:Hd (Calls _ _ _ _ _):=NV m n 2 E B ak A;have Q:Hd (Wq (some E) [b,c,d,e,f,g,h,i]=none):=by
   unfold Hd Wq;have:mj 1 (mj 1 (some E))=none:=by
    cases cb:mj 1 (mj 1 (some E))with
    |none=>rfl
    |some u=>
     obtain⟨cD,X,cp⟩:=zv cb;obtain⟨cE,c6,cr⟩:=zv X;cases c6;omega
   rw[this];rfl
  clear A;go_wp2_with fail;refine c1.o.mono ?_;rintro t w ⟨rfl,ci⟩;obtain rfl:B=w:=ci.symm;unfold mz;go_wp2;refine⟨rfl,ar.o,?_⟩;rw[Q.o];rfl
def JL:Pj:=⟨⟨none,0,0⟩,⟨none,0,0⟩,uz⟩
def Fv(c:List ej)(f:List Pj)(b e:List UInt8)(d:Nat):List Pj:=(List.range d).flatMap (fun a=>if gq c a b e=true then[f.getD a JL]else[])
theorem nX(c:List ej)(e:List Pj)(b d:List UInt8)(a:Nat)(f:gq c a b d=true):Fv c e b d (a+1)=Fv c e b d a++[e.getD a JL]:=by
 unfold Fv;rw[uaj,KN];simp[f]
theorem OV(b:List ej)(e:List Pj)(a d:List UInt8)(c:Nat)(f:gq b c a d=false):Fv b e a d (c+1)=Fv b e a d c:=by
 unfold Fv;rw[uaj,KN];simp[f]
theorem nK(c:List ej)(f:List Pj)(b d:List UInt8):∀(a:Nat),(Fv c f b d a).length<=a
 |0=>by simp[Fv]
 |a+1=>by
  have g:=nK c f b d a;cases e:gq c a b d
  .rw[OV _ _ _ _ _ e];omega
  .rw[nX _ _ _ _ _ e];simp;omega
theorem CQ(a d:dj)(f g h i j k l m:UInt8)(b:World):
  CP 131 #[.agg (xO a d f g h i j k l m)] b fun c e=>c=.returned (.slice a.a a.n a.cap)/\Below b.heap.size b e:=by
 go_enter Tryz.func131,Tryz.ntmps131;go_wp2;go_ret;exact⟨rfl,by go_grown⟩
theorem DW(w:dj)(e:List Pj)(b:List ej)(L M:dj)(g f:List UInt8)(i:World)(b2:w.n=b.length)(b1:e.length=b.length)(bP:b.length<=200)(X:Mk i w.a e)(I:∀F∈e,F.d.length=8)(aR:∀Y (ce:Y<e.length) (cf:Y<b.length),BS i e[Y].k b[Y].key)(aA:BS i L g)(aB:BS i M f):
  CP 130 #[w.val,.func (.func 131) #[] #[],L.val,M.val] i fun H b9=>∃j:dj,H=.returned j.val/\b9.ownsRow i.heap.size 74 10 j.val (Fv b e g f b.length).length (Sj (Fv b e g f b.length))/\Below i.heap.size i b9:=by
 have R:Hd (∀(wr:World),BB i wr->∀a (D:a<e.length) (b0:a<b.length),∃v j,w.a=some ⟨v,j,none⟩/\v<i.heap.size/\wr.rangeAt v (j+a*10) (qv e[a])/\BS wr e[a].k b[a].key):=fun wr ax a D b0=>by
  obtain⟨v,j,V,a9,W⟩:=Mk.range (jj.below X ax (fun F b6=>by obtain⟨v,j,V,a9,_⟩:=Mk.range X I a D;rw[V]at b6;cases b6;exact a9)) I a D;obtain⟨bC,c7,aC,aD,_⟩:=Mk.range X I a D;rw[V]at aC;cases aC;exact⟨v,j,V,aD,W,(aR a D b0).below ax⟩
 have bm:Hd (BS i L g):=aA;have bu:Hd (BS i M f):=aB;have P:Hd (w.n=b.length):=b2;have A:Hd (e.length=b.length):=b1;have af:Hd (∀F∈e,F.d.length=8):=I;have c3:w.n<=200:=by omega
 have c4:(w.n:Int)<=200:=by omega
 clear X aR b2 b1 bP aA aB I;unfold dj.val;go_enter Tryz.func130,Tryz.ntmps130;go_wp2
 go_loopw [9,10,11,12,15] (fun c8 _ _ _ aa wr=>∃(a:Nat) (j:dj),a<=b.length/\aa=.int .i64 a/\c8=.slice j.a j.n j.cap/\Hd (wr.ownsRow i.heap.size 74 10 j.val (Fv b e g f a).length (Sj (Fv b e g f a)))/\Hd (BB i wr)) (fun _ _ _ _ aa _=>b.length - (intOf aa).toNat)
 case atStart=>exact⟨0,⟨none,0,0⟩,by omega,by simp,rfl,iN _ _ _ _,VM _ _⟩
 case round=>
  obtain⟨a,K,D,rfl,rfl,Q,u⟩:=hrel;by_cases x:a<b.length
  .have c2:(a:Int)<w.n:=by rw[P.o];omega
   have c1:(a:Int)<=200:=by omega
   obtain⟨v,j,aP,a9,b4,aE⟩:=R.o wr u.o a (by rw[A.o];exact x) x;have bo:Hd (e.getD a JL=e[a]'(by rw[A.o];exact x)):=by unfold Hd;rw[iaj,UM (by rw[A.o];exact x)];rfl
   have b7:=af.o _ (bN (by rw[A.o];exact x:a<e.length));generalize e[a]'(by rw[A.o];exact x)=F at*;obtain⟨c,d,bE⟩:=F;obtain⟨k,l,m,n,o,p,q,r,rfl⟩:=uj bE b7;have ah:Hd (wr.rangeAt v (j+a*10) [.slice c.a c.n c.cap,.slice d.a d.n d.cap,.int .u8 k.toNat,.int .u8 l.toNat,.int .u8 m.toNat,.int .u8 n.toNat,.int .u8 o.toNat,.int .u8 p.toNat,.int .u8 q.toNat,.int .u8 r.toNat]):=b4;have bl:Hd (BS wr c b[a].key):=aE;obtain⟨cc,bD,cd⟩:=w;simp only at aP;subst aP;simp only at P c3 c4 c2;clear b4 aE b7;go_upto_region 5 with(refine wpList_load_mid (by rfl) 74 (.tmp 18) (by rfl) v (j+a*10) (by rfl) [.slice c.a c.n c.cap,.slice d.a d.n d.cap,.int .u8 k.toNat,.int .u8 l.toNat,.int .u8 m.toNat,.int .u8 n.toNat,.int .u8 o.toNat,.int .u8 p.toNat,.int .u8 q.toNat,.int .u8 r.toNat] _ ah.o Tryz.underlying74 rfl Tryz.sizeEntryB ?_);have O:Hd (BB wr (wr.alloc (.cells (xO c d k l m n o p q r) 74))):=tO;have a6:Hd (aj (wr.alloc (.cells (xO c d k l m n o p q r) 74)) wr.heap.size 74 [.slice c.a c.n c.cap,.slice d.a d.n d.cap,.int .u8 k.toNat,.int .u8 l.toNat,.int .u8 m.toNat,.int .u8 n.toNat,.int .u8 o.toNat,.int .u8 p.toNat,.int .u8 q.toNat,.int .u8 r.toNat]):=aj.new wr _ _;have a2:Hd (BB i (wr.alloc (.cells (xO c d k l m n o p q r) 74))):=u.o.trans (O.o.mono u.o.size);have bR:i.heap.size<=wr.heap.size:=u.o.size;generalize wr.alloc (.cells (xO c d k l m n o p q r) 74)=B at*;have br:Hd (kw b a=b[a].key):=jy x;generalize b[a].key=z at*
   go_cut [12] (fun ac ae=>ac=.bool (a==0||Op.bytesLess (kw b (a - 1)) f)/\Hd (BB B ae))
   case first=>
    by_cases c0:a=0
    .subst c0;go_wp2_with fail;go_meet
     case rel=>exact⟨rfl,VM _ _⟩
    .obtain⟨h,rfl⟩:∃h,a=h+1:=⟨a - 1,by omega⟩;have aT:h<e.length:=by rw[A.o];omega
     have aS:h<b.length:=by omega
     obtain⟨bC,c7,bS,aD,s,aI⟩:=R.o B a2.o h aT aS;cases bS;have b8:=af.o _ (bN aT);have bs:Hd (kw b (h+1 - 1)=b[h].key):=by unfold Hd;rw[show h+1 - 1=h from rfl,jy aS]
     generalize e[h]=cb at*;obtain⟨E,Z,bI⟩:=cb;obtain⟨ba,bb,bc,bd,be,bf,bg,bh,rfl⟩:=uj bI b8;have s:B.rangeAt v (j+h*10) [.slice E.a E.n E.cap,.slice Z.a Z.n Z.cap,.int .u8 ba.toNat,.int .u8 bb.toNat,.int .u8 bc.toNat,.int .u8 bd.toNat,.int .u8 be.toNat,.int .u8 bf.toNat,.int .u8 bg.toNat,.int .u8 bh.toNat]:=s;have a7:=s 0 _ rfl;have al:=s 1 _ rfl;have am:=s 2 _ rfl;have an:=s 3 _ rfl;have ao:=s 4 _ rfl;have ap:=s 5 _ rfl;have ar:=s 6 _ rfl;have au:=s 7 _ rfl;have av:=s 8 _ rfl;have U:=s 9 _ rfl;simp only[eaj]at a7;have a3:Hd (Calls _ _ _ _ _):=CQ E Z ba bb bc bd be bf bg bh B;have bk:Hd (BS B E b[h].key):=aI;have ch:((h:Int)+1==0)=false:=by simp;omega
     have ci:(h:Int)+1 - 1=h:=by omega
     have cj:(h:Int)<bD:=by rw[P.o];omega
     have bv:Hd (BS B M f):=bu.o.below a2.o;have a4:=Tx b[h].key f;have bi:=aw b[h].key f;generalize b[h].key=ab at*;clear s aI b8 R;go_wp2_with (go_at_call 131;refine a3.o.mono ?_;rintro H N ⟨rfl,y⟩);have G:Hd (Calls _ _ _ _ _):=Hv E M ab f N (bk.o.below y) (bv.o.below y);generalize Lib.compareBytes ab f=C at*;unfold dj.val at G;refine G.o.mono ?_;rintro H ad ⟨rfl,J⟩;obtain rfl:N=ad:=J.symm;clear J;go_wp2_with fail;go_meet
     case rel=>
      refine⟨?_,y⟩;rw[bs.o];have a8:Op.bytesLess ab f=decide (C<0):=by rw[caj];simp[a4]
      rw[a8];simp
   case rest=>
    obtain⟨rfl,a0⟩:=hcut;have ak:Hd (gq b a g f=(!(Op.bytesLess z g)&&(a==0||Op.bytesLess (kw b (a - 1)) f))):=by unfold Hd gq;rw[br.o]
    generalize (a==0||Op.bytesLess (kw b (a - 1)) f)=ca at*;have t:Hd (aj wc wr.heap.size 74 [.slice c.a c.n c.cap,.slice d.a d.n d.cap,.int .u8 k.toNat,.int .u8 l.toNat,.int .u8 m.toNat,.int .u8 n.toNat,.int .u8 o.toNat,.int .u8 p.toNat,.int .u8 q.toNat,.int .u8 r.toNat]):=aj.below a6.o a6.o.lt a0.o;have S:Hd (BB wr wc):=O.o.trans (a0.o.mono O.o.size);have bp:Hd (BS wc c z):=bl.o.below S.o;have bn:Hd (BS wc L g):=(bm.o.below u.o).below S.o;clear a6 O a0 a2 R ah;go_upto_region 6 with fail
    go_cut [42] (fun ac ae=>ac=.bool (gq b a g f)/\Hd (BB wc ae))
    case first=>
     cases ca with
     |false=>
      go_wp2_with fail;go_meet
      case rel=>exact⟨by rw[ak.o];simp,VM _ _⟩
     |true=>
      have a7:=t.o.cell 0 (by simp);have al:=t.o.cell 1 (by simp);have am:=t.o.cell 2 (by simp);have an:=t.o.cell 3 (by simp);have ao:=t.o.cell 4 (by simp);have ap:=t.o.cell 5 (by simp);have ar:=t.o.cell 6 (by simp);have au:=t.o.cell 7 (by simp);have av:=t.o.cell 8 (by simp);have U:=t.o.cell 9 (by simp);simp only[cN,gN]at a7 al am an ao ap ar au av U;have a3:Hd (Calls _ _ _ _ _):=CQ c d k l m n o p q r wc;have a4:=Tx z g;have bi:=aw z g;go_wp2_with (go_at_call 131;refine a3.o.mono ?_;rintro H N ⟨rfl,y⟩);have G:Hd (Calls _ _ _ _ _):=Hv c L z g N (bp.o.below y) (bn.o.below y);generalize Lib.compareBytes z g=C at*;unfold dj.val at G;refine G.o.mono ?_;rintro H ad ⟨rfl,J⟩;obtain rfl:N=ad:=J.symm;clear J;go_wp2_with fail;go_meet
      case rel=>
       refine⟨?_,y⟩;have a8:Op.bytesLess z g=decide (C<0):=by rw[caj];simp[a4]
       rw[ak.o,a8];by_cases W:0<=C
       .have:¬C<0:=by omega
        simp[W,this]
       .have:C<0:=by omega
        simp[W,this]
    case rest=>
     obtain⟨rfl,ag⟩:=hcut;have bw:=aj.below t.o t.o.lt ag.o;have T:Hd (BB wr wc):=S.o.trans (ag.o.mono S.o.size);cases b5:gq b a g f with
     |false=>
      have a5:Hd (Fv b e g f (a+1)=Fv b e g f a):=OV _ _ _ _ _ b5;go_wp2;refine⟨⟨a+1,K,x,by go_num,rfl,?_,u.o.trans (T.o.mono u.o.size)⟩,by simp[intOf];omega⟩;unfold Hd;rw[a5.o];exact lj Q.o T.o
     |true=>
      have a5:Hd (Fv b e g f (a+1)=Fv b e g f a++[⟨c,d,[k,l,m,n,o,p,q,r]⟩]):=by unfold Hd;rw[nX _ _ _ _ _ b5,bo.o]
      have ai:Hd ((Fv b e g f a).length<=200):=by have:=nK b e g f a;unfold Hd;omega
      have a1:Hd (BB wr (wc.alloc (.cells (xO c d k l m n o p q r) 74))):=T.o.alloc T.o.size _;have bA:Hd (aj wc wr.heap.size 74 [.slice c.a c.n c.cap,.slice d.a d.n d.cap,.int .u8 k.toNat,.int .u8 l.toNat,.int .u8 m.toNat,.int .u8 n.toNat,.int .u8 o.toNat,.int .u8 p.toNat,.int .u8 q.toNat,.int .u8 r.toNat]):=bw;go_wp2_with (first
       |(refine wpList_load_mid (by rfl) 74 (.tmp 11) (by rfl) wr.heap.size 0 (by rfl) [.slice c.a c.n c.cap,.slice d.a d.n d.cap,.int .u8 k.toNat,.int .u8 l.toNat,.int .u8 m.toNat,.int .u8 n.toNat,.int .u8 o.toNat,.int .u8 p.toNat,.int .u8 q.toNat,.int .u8 r.toNat] _ bA.o.range Tryz.underlying74 rfl Tryz.sizeEntryB ?_)
       |(at_builtin;refine rq (by rfl) (.tmp 43) (.tmp 45) 67 (by rfl) i.heap.size 74 _ 10 56 Tryz.underlying67 Tryz.infoEntry rfl (by decide) (.slice K.a K.n K.cap) (Fv b e g f a).length (Sj (Fv b e g f a)) (by rfl) (lj Q.o a1.o) (some ⟨wc.heap.size,0,none⟩) 1 1 [.slice c.a c.n c.cap,.slice d.a d.n d.cap,.int .u8 k.toNat,.int .u8 l.toNat,.int .u8 m.toNat,.int .u8 n.toNat,.int .u8 o.toNat,.int .u8 p.toNat,.int .u8 q.toNat,.int .u8 r.toNat] (by rfl) rfl (jj.alloc_new wc _ _) (fun bO=>by cases bO) (dJ ⟨c,d,[k,l,m,n,o,p,q,r]⟩) (by have:=ai.o;unfold maxLen;omega) (by have:=ai.o;omega) (WM bR a1.o.size) ?_;intro ck cl b3 bT cg;obtain⟨bB,U,c6,_⟩:=Nj b3;subst c6))
      have aO:Below i.heap.size i (wc.alloc (.cells (xO c d k l m n o p q r) 74)):=u.o.trans (a1.o.mono u.o.size);refine⟨⟨a+1,⟨bB,(Fv b e g f a).length+1,U⟩,x,by go_num,rfl,?_,aO.trans (bT.below aO.size (fun c9 c5=>(Q.o.lt c9 c5).1))⟩,by simp[intOf];omega⟩;unfold Hd;rw[a5.o,XM,zZ];exact b3
  .have c1:¬(a:Int)<w.n:=by rw[P.o];omega
   obtain rfl:a=b.length:=by omega
   go_wp2;go_ret;exact⟨K,rfl,Q.o,u.o⟩
theorem rU(b:List ej)(f:List Pj)(c e:List UInt8)(l:Pj->ej->Prop)(r:f.length=b.length)(n:∀d (h:d<f.length) (o:d<b.length),l f[d] b[d]):∀(a:Nat),a<=b.length->(Fv b f c e a).length=(Ry b c e a).length/\∀d (h:d<(Fv b f c e a).length) (o:d<(Ry b c e a).length),l (Fv b f c e a)[d] (Ry b c e a)[d]
 |0,_=>⟨rfl,fun d h=>by simp[Fv]at h⟩
 |a+1,t=>by
  have g:=rU b f c e l r n a (by omega);have s:f.getD a JL=f[a]'(by omega):=by rw[iaj,UM (by omega:a<f.length)];rfl
  have q:b.getD a BQ=b[a]'(by omega):=by rw[iaj,UM (by omega:a<b.length)];rfl
  cases k:gq b a c e with
  |false=>
   have i:=OV b f c e a k;have j:=JV b c e a k;rw[i,j];exact g
  |true=>
   have i:=nX b f c e a k;have j:=kX b c e a k;rw[s]at i;rw[q]at j;rw[i,j];refine⟨by simp[g.1],fun d h o=>?_⟩;by_cases m:d<(Fv b f c e a).length
   .rw[kaj m,kaj (by rw[<-g.1];exact m)];exact g.2 d m _
   .have p:d=(Fv b f c e a).length:=by simp at h;omega
    subst p;rw[haj (TM _),haj (by rw[g.1];exact TM _)];simp only[g.1,Aaj,List.getElem_singleton];exact n a _ _
theorem oK(c:List ej)(b d:List UInt8):∀(a:Nat),(Ry c b d a).length<=a
 |0=>by simp[Ry]
 |a+1=>by
  have f:=oK c b d a;cases e:gq c a b d
  .rw[JV _ _ _ _ e];omega
  .rw[kX _ _ _ _ e];simp;omega
def Sw(b f:List UInt8)(a:Nat)(e:List ej)(d:List UInt8)(c:Nat):Option (List ej×List UInt8):=(e.take c).foldlM (Jv (Kq b f a) a) ([],d)
theorem pL{d e:List UInt8}{a:Nat}{c:List ej}{f:List UInt8}{b:Nat}(h:b<c.length):Sw d e a c f (b+1)=(Sw d e a c f b).bind (fun g=>Jv (Kq d e a) a g c[b]):=by
 unfold Sw;rw[RN h,List.foldlM_append];cases (c.take b).foldlM (Jv (Kq d e a) a) ([],f)with
 |none=>rfl
 |some g=>simp
theorem oX{b f:List UInt8}{d:Nat}{a:List ej}{e:List UInt8}{j:Nat}(c:Sw b f d a e j=none):Sw b f d a e a.length=none:=by
 unfold Sw at c⊢;have g:a.take a.length=a.take j++a.drop j:=by rw[raj,Naj]
 rw[g,List.foldlM_append,c];rfl
def KG(k:World)(b:Nat->Prop)(d g:Nat)(f:Option (List ej×List UInt8))(c:Ending)(a:World):Prop:=
 bj (fun i=>i=d) k a/\match f with
  |none=>c=mz
  |some (h,j)=>∃(e:dj) (l:List Pj),c=.returned e.val/\lz 0 a b g e l h/\iz a b d j
def ZJ(l n:List UInt8)(i:Nat):Prop:=∀(f:Nat->Prop) (b j:Nat) (g:dj) (o:List Pj) (h:List ej) (k:List UInt8) (c d:dj) (a:World),iz a f b k->(∀m,f m->m<a.heap.size)->Hx i h->lz i a f j g o h->j<=a.heap.size->BS a c l->BS a d n->(∀e,c.a=some e->e.block≠b)->(∀e,d.a=some e->e.block≠b)->h.length+k.length<=1000000000->
 CP 103 #[.pointer (some ⟨b,0,none⟩),.agg #[.int .i64 i,.slice g.a g.n g.cap],.slice c.a c.n c.cap,.slice d.a d.n d.cap] a (KG a f b j (Kq l n i h k))
theorem kM(p y:List UInt8):ZJ p y 0:=by
 intro d e h a m k l f g b j r w i u q t v x s;have c:Hd (BB b (b.alloc (.cells #[.int .i64 0,.slice a.a a.n a.cap] 171))):=tO;have o:Hd (iz b d e l):=j;have n:Hd (lz 0 b d h a m k):=i;clear j r w i u q t v x s;show CP 103 #[.pointer (some ⟨e,0,none⟩),.agg #[.int .i64 0,.slice a.a a.n a.cap],.slice f.a f.n f.cap,.slice g.a g.n g.cap] b (KG b d e h (some (k,l)));go_enter Tryz.func103,Tryz.ntmps103;go_wp2;go_ret;exact⟨bj.of_below_all c.o,a,m,rfl,n.o.below c.o,o.o.below c.o⟩
end Go.Proofs.YtekegfbjbainhaaGreat
