import Derived.Test.YtekegfbjbainhaaGreatKJoin4
import Derived.Lib.BitFns
set_option maxRecDepth 100000
set_option maxHeartbeats 1600000
set_option linter.unusedVariables false
set_option linter.unusedSimpArgs false
namespace Go.Proofs.YtekegfbjbainhaaGreat
open Go.RowKit
section
attribute [local go_sem↓] Go.wp_at_zero Go.wp_at_succ
theorem cJ(c:Option Addr)(f d:Nat)(a:List UInt8)(b:World)(j:f=a.length)(i:a.length<=maxLen)(h:jq b c a):
  CP 67 #[.slice c f d] b fun e g=>e=.returned (By a)/\Below b.heap.size b g:=by
 subst j;refine(VF c d a b i h).mono ?_;rintro e g ⟨rfl,k,l,m,rfl⟩;exact⟨rfl,(tO.alloc (by simp) _).alloc (by simp;omega) _⟩
def Ny:List UInt8:=(([0,1,2,2,3,3,3,3,4,4,4,4,4,4,4,4,5,5,5,5,5,5,5,5,5,5,5,5,5,5,5,5,6,6,6,6,6,6,6,6,6,6,6,6,6,6,6,6,6,6,6,6,6,6,6,6,6,6,6,6,6,6,6,6].append [7,7,7,7,7,7,7,7,7,7,7,7,7,7,7,7,7,7,7,7,7,7,7,7,7,7,7,7,7,7,7,7,7,7,7,7,7,7,7,7,7,7,7,7,7,7,7,7,7,7,7,7,7,7,7,7,7,7,7,7,7,7,7,7]).append ([8,8,8,8,8,8,8,8,8,8,8,8,8,8,8,8,8,8,8,8,8,8,8,8,8,8,8,8,8,8,8,8,8,8,8,8,8,8,8,8,8,8,8,8,8,8,8,8,8,8,8,8,8,8,8,8,8,8,8,8,8,8,8,8].append [8,8,8,8,8,8,8,8,8,8,8,8,8,8,8,8,8,8,8,8,8,8,8,8,8,8,8,8,8,8,8,8,8,8,8,8,8,8,8,8,8,8,8,8,8,8,8,8,8,8,8,8,8,8,8,8,8,8,8,8,8,8,8,8]))
theorem Lk:∀a:Fin 256,Ny[a.val]?.map (·.toNat)=some (Lib.bitLen a.val):=by decide+kernel
theorem ay{c:Program}{m:Array Oper}{rest:List Oper}{f:Oper}{d:Act}{g:World}{k:Exit->Act->World->Prop}(v:f.guard=none)(j:TypeId)(o:Operand)(a:List UInt8)(w:f.op=.index j (.const (.string ⟨a.toArray⟩)) o)
  (b e:Nat)(A:d.eval o=.int .u8 (b:Int))(y:c.underlying j=some .string)(i:a[b]?.map (·.toNat)=some e)(p:wpList c m k rest (d.put f.dst (.int .u8 (e:Int))) g):wpList c m k (f::rest) d g:=by
 refine wpList_plain v fun B s=>?_;cases h:a[b]? with
 |none=>simp[h]at i
 |some n=>
  rw[h]at i;have z:n.toNat=e:=by simpa using i
  have t:(ByteArray.mk a.toArray)[b]? =some n:=by
   obtain⟨q,D⟩:=kN.1 h;have l:b<(ByteArray.mk a.toArray).size:=by simpa[ByteArray.size]using q
   have r:(ByteArray.mk a.toArray)[b]? =some ((ByteArray.mk a.toArray)[b]'l):=getElem?_pos (ByteArray.mk a.toArray) b l;rw[r]
   congr 1
  have x:(Instr.index j (.string ⟨a.toArray⟩) (.int .u8 (b:Int))).run c g=.ok (.int .u8 (e:Int)) g:=by
   have C:(0:Int)<=b:=by omega
   simp[Instr.index,asIntOf,run_underlying y,t,z,Result.andThen]
  unfold Oper.wp execOp;simp only[w];have u:d.eval (.const (.string ⟨a.toArray⟩))=.string ⟨a.toArray⟩:=rfl;simp only[u,A,Sem.run_bind,x,Result.andThen_ok,Sem.run_pure];exact s _ _ p
theorem YV(a:Nat)(d:World)(c:a<256):
  CP 158 #[.int .u64 (a:Int)] d fun f g=>f=.returned (.int .i64 (Lib.bitLen a:Int))/\g=d:=by
 have h:¬(4294967296:Int)<=a:=by omega
 have i:¬(65536:Int)<=a:=by omega
 have j:¬(256:Int)<=a:=by omega
 have k:(a:Int)<256:=by omega
 have l:(a:Int)%256=a:=by omega
 have e:Hd (Ny[a]?.map (·.toNat)=some (Lib.bitLen a)):=Lk ⟨a,c⟩;have n:Lib.bitLen a<=8:=Lib.bitLen_le8 ⟨a,c⟩;generalize Lib.bitLen a=b at*;have m:(b:Int)<=8:=by omega
 go_enter Tryz.func158,Tryz.ntmps158;go_wp2_with (refine ay (by rfl) 9 (.tmp 21) Ny (by rfl) a b (by rfl) Tryz.underlying9 e.o ?_);go_ret;exact⟨rfl,rfl⟩
theorem OL(a:Nat)(b:World)(d:a<256):
  CP 147 #[.int .u64 (a:Int)] b fun c g=>c=.returned (.int .i64 (Lib.bitLen a:Int))/\g=b:=by
 have e:Hd (Calls _ _ _ _ _):=YV a b d;generalize Lib.bitLen a=i at*;have j:(a:Int)<256:=by omega
 clear d;go_enter Tryz.func147,Tryz.ntmps147;go_wp2_with (go_at_call 158;refine e.o.mono ?_;rintro c h ⟨rfl,f⟩;obtain rfl:b=h:=f.symm);go_ret;exact⟨rfl,rfl⟩
theorem JH:∀a:Fin 201,2<=a.val->1<=Lib.bitLen (a.val - 1)/\Lib.bitLen (a.val - 1)<=8/\2^(Lib.bitLen (a.val - 1) - 1)=gj a.val:=by decide+kernel
theorem ZF(c:Nat)(d:World)(i:2<=c)(p:c<=200):
  CP 128 #[.int .i64 c] d fun g s=>g=.returned (.int .i64 (gj c:Int))/\s=d:=by
 obtain⟨a,rfl⟩:∃a,c=a+1:=⟨c - 1,by omega⟩;have h:=JH ⟨a+1,by omega⟩ i;simp only[Nat.add_sub_cancel]at h;have k:Hd (Calls _ _ _ _ _):=OL a d (by omega);have z:((a+1:Nat):Int) - 1=(a:Int):=by omega
 have y:(a:Int)<=200:=by omega
 have u:Hd (((a+1:Nat):Int)=(a:Int)+1):=by unfold Hd;omega
 generalize gj (a+1)=m at*;generalize Lib.bitLen a=f at*;obtain⟨n,o,e⟩:=h;obtain⟨b,rfl⟩:∃b,f=b+1:=⟨f - 1,by omega⟩;simp only[Nat.add_sub_cancel]at e;have x:((b+1:Nat):Int) - 1=(b:Int):=by omega
 have v:(b:Int)<=7:=by omega
 have w:b<=7:=by omega
 have l:Hd (wrap64 ((2:Int)^b)=(m:Int)):=by
  unfold Hd;rw[<-e];have q:∀j:Fin 8,wrap64 ((2:Int)^j.val)=((2^j.val:Nat):Int):=by decide+kernel
  exact q ⟨b,by omega⟩
 clear n o i p e;go_enter Tryz.func128,Tryz.ntmps128;go_wp2_with (go_at_call 147;refine k.o.mono ?_;rintro g t ⟨rfl,r⟩;obtain rfl:d=t:=r.symm);go_ret;exact⟨by rw[<-l.o];rfl,rfl⟩
theorem DX(b:List UInt8)(a:World)(d:b.length=8):
  CP 142 #[dV b] a fun h F=>h=.returned (dV (Aj (0::b)))/\Below a.heap.size a F:=by
 have m:rj (Yk (Ax (Bz a b)) 0) a.heap.size (.slice (some ⟨a.heap.size+1+1,0,none⟩) 1 1) [0]:=by
  have:=rj.built (Ax (Bz a b)) a.heap.size [0] (by simp;omega) (by simp[maxLen]);simp only[YM]at this;exact this
 have r:jq (Yk (Ax (Bz a b)) 0) (some ⟨a.heap.size,0,none⟩) b:=jq.of_row (((aj.new a 36 _).alloc _).alloc _);have p:aj (Yk (Ax (Bz a b)) 0) (a.heap.size+1) 36 z8:=by
  have:=(jJ (Bz a b)).alloc (.cells #[.int .u8 0] 5);simp only[YM]at this;exact this
 obtain⟨c,e⟩:∃c,c=Aj (0::b):=⟨_,rfl⟩;have n:c.length=8:=by rw[e];rfl
 have s:dV b=.agg (b.map fj).toArray:=rfl;rw[<-e,s];have v:Hd (c=Aj (0::b)):=e;clear e s;go_enter Tryz.func142,Tryz.ntmps142;go_wp2_with (at_builtin;refine Hq (by rfl) (.tmp 3) (.tmp 4) (by rfl) a.heap.size _ [0] (by rfl) m (some ⟨a.heap.size,0,none⟩) 8 8 b (by rfl) d.symm r (fun y=>by cases y) (by simp[d]) (by simp;omega) ?_;intro w J x G H D q g A);refine(cJ w _ x (0::b) G (by simp[d]) (by simp[d,maxLen]) q).mono ?_;rintro h t ⟨rfl,f⟩;rw[kx,<-v.o];have l:aj t (a.heap.size+1) 36 z8:=by
  have i:=p.of_block (g.block (a.heap.size+1) (by simp) (by simp[Value.ownBlock]));exact i.below i.lt f
 have u:Hd (BB a t):=by
  have j:=g.below (B:=a.heap.size) (by simp;omega) (fun E o=>by simp[Value.ownBlock]at o;omega);exact(((tO.alloc (by simp) _).alloc (by simp;omega) _).trans j).trans (f.mono (by have:=j.size;simp at this;omega))
 clear g A q D f r m p;go_wp2_with (refine iq (by rfl) (.tmp 2) (.tmp 6) (by rfl) (a.heap.size+1) (by rfl) c n (by rfl) l (by rfl) ?_;intro K z C I);exact uy (k:=2) rfl rfl z n rfl ⟨rfl,u.o.trans (C.below (by have:=l.lt;omega) (fun E o=>by omega))⟩
theorem Uy(b c:List UInt8)(a:World)(f:b.length=8)(l:c.length=8):
  CP 143 #[dV b,dV c] a fun m X=>m=.returned (dV (Aj (1::(b++c))))/\Below a.heap.size a X:=by
 have v:rj (Yk (Ax (Bz (Bz a b) c)) 1) a.heap.size (.slice (some ⟨a.heap.size+1+1+1,0,none⟩) 1 1) [1]:=by
  have:=rj.built (Ax (Bz (Bz a b) c)) a.heap.size [1] (by simp;omega) (by simp[maxLen]);simp only[YM]at this;exact this
 have D:jq (Yk (Ax (Bz (Bz a b) c)) 1) (some ⟨a.heap.size,0,none⟩) b:=jq.of_row ((((aj.new a 36 _).alloc _).alloc _).alloc _);have E:jq (Yk (Ax (Bz (Bz a b) c)) 1) (some ⟨a.heap.size+1,0,none⟩) c:=by
  have:=jq.of_row (((aj.new (Bz a b) 36 (c.map fj)).alloc (.cells z8.toArray 36)).alloc (.cells #[.int .u8 1] 5));simp only[YM]at this;exact this
 have A:aj (Yk (Ax (Bz (Bz a b) c)) 1) (a.heap.size+1+1) 36 z8:=by
  have:=(jJ (Bz (Bz a b) c)).alloc (.cells #[.int .u8 1] 5);simp only[YM]at this;exact this
 obtain⟨h,n⟩:∃h,h=Aj (1::(b++c)):=⟨_,rfl⟩;have w:h.length=8:=by rw[n];rfl
 have G:dV b=.agg (b.map fj).toArray:=rfl;have H:dV c=.agg (c.map fj).toArray:=rfl;rw[<-n,G,H];have K:Hd (h=Aj (1::(b++c))):=n;clear n G H;go_enter Tryz.func143,Tryz.ntmps143;go_wp2_with (first
  |(at_builtin;refine Hq (by rfl) (.tmp 6) (.tmp 7) (by rfl) a.heap.size _ [1] (by rfl) v (some ⟨a.heap.size,0,none⟩) 8 8 b (by rfl) f.symm D (fun e=>by cases e) (by simp[f]) (by simp;omega) ?_;intro L V N a1 x z T j u;obtain rfl:V=9:=(by rw[x,f];rfl);have F:=jq.frame E j (fun a3 U=>by cases U;simp[Value.ownBlock];omega);clear x)
  |(at_builtin;refine Hq (by rfl) (.tmp 9) (.tmp 10) (by rfl) a.heap.size _ ([1]++b) (by rfl) z (some ⟨a.heap.size+1,0,none⟩) 8 8 c (by rfl) l.symm F (fun e=>by cases e) (by simp[f,l]) (by have:=j.size;simp at this;omega) ?_;intro M W O Y y S C p Q;obtain rfl:W=17:=(by rw[y,l];simp[f]);clear y))
 refine(cJ M _ O (1::(b++c)) Y (by simp[f,l]) (by simp[f,l,maxLen]) (by simpa using C)).mono ?_;rintro m I ⟨rfl,o⟩;rw[kx,<-K.o];have q:∀g,(Value.slice L 9 N).ownBlock=some g->a.heap.size+1+1+1<=g:=fun g d=>by
  rcases u with e|e
  .rw[e]at d;simp[Value.ownBlock]at d;omega
  .rw[e]at d;simp at d;omega
 have t:aj I (a.heap.size+1+1) 36 z8:=by
  have r:=A.of_block (j.block (a.heap.size+1+1) (by simp) (by simp[Value.ownBlock]));have i:=r.of_block (p.block (a.heap.size+1+1) r.lt (fun m=>by have:=q _ m;omega));exact i.below i.lt o
 have J:Hd (BB a I):=by
  have i:=j.below (B:=a.heap.size) (by simp;omega) (fun g d=>by simp[Value.ownBlock]at d;omega);have Z:=i.size;simp only[YM]at Z;have s:=p.below (B:=a.heap.size) (by omega) (fun g d=>by have:=q _ d;omega);have a4:=s.size;exact(((((tO.alloc (by simp) _).alloc (by simp;omega) _).alloc (by simp;omega) _).trans i).trans s).trans (o.mono (by omega))
 clear j u T z o D v A E F p Q C S q;go_wp2_with (refine iq (by rfl) (.tmp 4) (.tmp 12) (by rfl) (a.heap.size+1+1) (by rfl) h w (by rfl) t (by rfl) ?_;intro a2 P R a0);exact uy (k:=4) rfl rfl P w rfl ⟨rfl,J.o.trans (R.below (by have:=t.lt;omega) (fun g d=>by omega))⟩
theorem dy:∀(h:Nat) (b:List (List UInt8)) (x:Option Addr) (f:Nat) (a:World),b.length<h->b.length<=200->b.length<=f->f<=9223372036854775807->tq a x b->
  CP 119 #[.slice x b.length f] a fun l u=>l=.returned (dV (Uj h b))/\Below a.heap.size a u
 |0,b,x,f,a,E,_,_,_,_=>absurd E (wN _)
 |h+1,[],x,f,a,E,X,H,I,m=>by
  have B:=dv.start a;obtain⟨g,j⟩:∃g,g=Uj (h+1) []:=⟨_,rfl⟩;have q:g.length=8:=by rw[j];rfl
  rw[<-j];have z:Hd (g=Aj []):=j;clear j;go_enter Tryz.func119,Tryz.ntmps119;go_wp2_with fail;refine(cJ none 0 0 [] _ rfl (by simp) (jq.nil _ _)).mono ?_;rintro l am ⟨rfl,G⟩;rw[kx,<-z.o];have s:=B.next G;go_wp2_with (refine iq (by rfl) (.tmp 2) (.tmp 8) (by rfl) a.heap.size (by rfl) g q (by rfl) s.2 (by rfl) ?_;intro an F L ah);exact uy (k:=2) rfl rfl F q rfl ⟨rfl,s.1.trans (L.below (by have:=s.2.lt;omega) (fun c ad=>by omega))⟩
 |h+1,[r],x,f,a,E,X,H,I,m=>by
  have B:=dv.start a;have J:r.length=8:=m.2 r (by simp);obtain⟨o,p,rfl,a7,_⟩:=m.1 0 (by simp[qj,J]);have ag:(Ax a).rangeAt o p (r.map fj):=fun ai bc M=>by
   obtain⟨ac,M⟩:=kN.1 M;obtain⟨ao,bb,a6,D,a9⟩:=m.1 ai (by simpa[qj]using ac);cases a6;rw[World.cell?_alloc_lt _ _ _ (by exact D),a9];simp only[qj,JN,List.flatMap_nil,XN];rw[M]
  have b1:(1:Int)<=f:=by simp at H;omega
  obtain⟨g,j⟩:∃g,g=Uj (h+1) [r]:=⟨_,rfl⟩;have q:g.length=8:=by rw[j];rfl
  rw[<-j];have z:Hd (g=Aj (0::r)):=j;clear j;go_enter Tryz.func119,Tryz.ntmps119;go_wp2_with (refine wpList_load_mid (by rfl) 36 (.tmp 12) (by rfl) o p (by rfl) (r.map fj) _ ag Tryz.underlying36 (by rfl) (by simpa[J]using Tryz.infoDig) ?_);refine(DX r _ J).mono ?_;rintro l am ⟨rfl,G⟩;rw[<-z.o];have s:=B.next G;go_wp2_with (refine iq (by rfl) (.tmp 2) (.tmp 14) (by rfl) a.heap.size (by rfl) g q (by rfl) s.2 (by rfl) ?_;intro an F L ah);exact uy (k:=2) rfl rfl F q rfl ⟨rfl,s.1.trans (L.below (by have:=s.2.lt;omega) (fun c ad=>by omega))⟩
 |h+1,v::w::t,x,f,a,E,X,H,I,m=>by
  have B:=dv.start a;have af:2<=(v::w::t).length:=by simp
  have ab:=Rq _ af;obtain⟨g,j⟩:∃g,g=Uj (h+1) (v::w::t):=⟨_,rfl⟩;have q:g.length=8:=by rw[j];rfl
  rw[<-j];have z:Hd (g=Aj (1::(Uj h ((v::w::t).take (gj (v::w::t).length))++Uj h ((v::w::t).drop (gj (v::w::t).length))))):=j;clear j;generalize (v::w::t)=b at*;obtain⟨o,p,rfl,a7,aa⟩:=m.1 0 (by rw[mq _ m.2];omega);clear aa;have Y:=ZF b.length;have a1:Hd (∀a:World,2<=b.length->b.length<=200->_):=Y;clear Y;generalize gj b.length=c at*;obtain⟨b4,b5⟩:=ab;have V:(b.take c).length=c:=by rw[aN];omega
  have W:(b.drop c).length=b.length - c:=by rw[oN]
  have Z:Hd (∀n,dv a a.heap.size n->CP 119 #[.slice (some ⟨o,p,none⟩) c f] n fun l u=>l=.returned (dV (Uj h (b.take c)))/\dv a a.heap.size u):=fun n C=>by
   have A:=dy h (b.take c) (some ⟨o,p,none⟩) f n (by omega) (by omega) (by omega) I ((m.below C.1).take c (by omega));rw[V]at A;exact A.mono fun l u ⟨K,D⟩=>⟨K,C.next D⟩
  have a0:Hd (∀n,dv a a.heap.size n->CP 119 #[.slice (some ⟨o,p+c*8,none⟩) (b.length - c) (f - c)] n fun l u=>l=.returned (dV (Uj h (b.drop c)))/\dv a a.heap.size u):=fun n C=>by
   have A:=dy h (b.drop c) (some ⟨o,p+c*8,none⟩) (f - c) n (by omega) (by omega) (by omega) (by omega) ((m.below C.1).drop c (by omega));rw[W]at A;exact A.mono fun l u ⟨K,D⟩=>⟨K,C.next D⟩
  obtain⟨y,rfl⟩:∃y,h=y+1:=⟨h - 1,by omega⟩;have a3:(Uj (y+1) (b.take c)).length=8:=Wj _ _;have a4:(Uj (y+1) (b.drop c)).length=8:=Wj _ _;generalize Uj (y+1) (b.take c)=ak at*;generalize Uj (y+1) (b.drop c)=al at*;obtain⟨N,O,P,Q,R,S,T,U,rfl⟩:=uj g q;have b2:(b.length:Int)<=f:=by omega
  have b3:(f:Int)<=9223372036854775807:=by omega
  have b6:(1:Int)<=c:=by omega
  have b7:(c:Int)<b.length:=by omega
  have ae:¬(b.length:Int)=0:=by omega
  have b9:((b.length:Int)==0)=false:=by simpa using ae
  have ba:((b.length:Int)==1)=false:=by simp;omega
  have b8:¬f=c:=by omega
  clear m V W q;go_enter Tryz.func119,Tryz.ntmps119;go_wp2_with fail;refine(a1.o _ (by omega) (by omega)).mono ?_;rintro l bd ⟨rfl,rfl⟩;have a2:Hd (dV [N,O,P,Q,R,S,T,U]=.agg (cO N O P Q R S T U)):=rfl;go_wp2
  go_region_with (first
   |(go_at_call_of 119 (Value.slice (some ⟨o,p,none⟩) c f);refine(Z.o _ (by exact B.drew)).mono ?_;rintro l be ⟨rfl,b0⟩)
   |(go_at_call_of 119 (Value.slice (some ⟨o,p+c*8,none⟩) (b.length - c) (f - c));refine(a0.o _ (by assumption)).mono ?_;rintro l bf ⟨rfl,a5⟩)
   |(go_at_call 143;refine(Uy ak al _ a3 a4).mono ?_;rintro l i ⟨rfl,a8⟩;rw[<-z.o,a2.o];have e:=dv.next a5 a8;have ap:i.cell? ⟨a.heap.size,0,none⟩=some (.int .u8 0):=e.2.cell 0 (by decide);have aD:i.frozen? ⟨a.heap.size,0,none⟩=false:=e.2.frozen 0;have ar:i.cell? ⟨a.heap.size,1,none⟩=some (.int .u8 0):=e.2.cell 1 (by decide);have aE:i.frozen? ⟨a.heap.size,1,none⟩=false:=e.2.frozen 1;have au:i.cell? ⟨a.heap.size,2,none⟩=some (.int .u8 0):=e.2.cell 2 (by decide);have aI:i.frozen? ⟨a.heap.size,2,none⟩=false:=e.2.frozen 2;have av:i.cell? ⟨a.heap.size,3,none⟩=some (.int .u8 0):=e.2.cell 3 (by decide);have aO:i.frozen? ⟨a.heap.size,3,none⟩=false:=e.2.frozen 3;have ax:i.cell? ⟨a.heap.size,4,none⟩=some (.int .u8 0):=e.2.cell 4 (by decide);have aP:i.frozen? ⟨a.heap.size,4,none⟩=false:=e.2.frozen 4;have aA:i.cell? ⟨a.heap.size,5,none⟩=some (.int .u8 0):=e.2.cell 5 (by decide);have aR:i.frozen? ⟨a.heap.size,5,none⟩=false:=e.2.frozen 5;have aB:i.cell? ⟨a.heap.size,6,none⟩=some (.int .u8 0):=e.2.cell 6 (by decide);have aS:i.frozen? ⟨a.heap.size,6,none⟩=false:=e.2.frozen 6;have aC:i.cell? ⟨a.heap.size,7,none⟩=some (.int .u8 0):=e.2.cell 7 (by decide);have aT:i.frozen? ⟨a.heap.size,7,none⟩=false:=e.2.frozen 7))
  all_goals
   go_wp2;exact uy (k:=2) (d:=[N,O,P,Q,R,S,T,U]) rfl rfl (by exact((((((((e.2.set 0 _).set 1 _).set 2 _).set 3 _).set 4 _).set 5 _).set 6 _).set 7 _)) rfl rfl ⟨rfl,((((((((e.1.setCell (by exact TM _) _).setCell (by exact TM _) _).setCell (by exact TM _) _).setCell (by exact TM _) _).setCell (by exact TM _) _).setCell (by exact TM _) _).setCell (by exact TM _) _).setCell (by exact TM _) _)⟩
end
section
structure Pj where
 k:dj
 v:dj
 d:List UInt8
def qv(a:Pj):List Value:=a.k.val::a.v.val::a.d.map fj
def Sj(a:List Pj):List Value:=a.flatMap qv
def uz:List UInt8:=[0,0,0,0,0,0,0,0]
theorem Gx(a:Pj)(b:a.d.length=8):(qv a).length=10:=by simp[qv,b]
theorem mv(a:List Pj)(c:∀b∈a,b.d.length=8):(Sj a).length=a.length*10:=Jx qv 10 a (fun b d=>Gx b (c b d))
theorem zZ(a b:List Pj):Sj (a++b)=Sj a++Sj b:=by simp[Sj]
theorem Gk(d:List Pj):∀b∈Sj d,b.oneCell'=true:=fun b c=>by
 obtain⟨e,_,a⟩:=Eaj.1 c;simp only[qv,IN,vN,dj.val]at a;rcases a with rfl|rfl|⟨f,_,rfl⟩<;>rfl
def Mk(c:World)(a:Option Addr)(b:List Pj):Prop:=jj c a (Sj b)
theorem Mk.range{h:World}{i:Option Addr}{a:List Pj}(k:Mk h i a)(l:∀f∈a,f.d.length=8)(c:Nat)(o:c<a.length):∃b e,i=some ⟨b,e,none⟩/\b<h.heap.size/\h.rangeAt b (e+c*10) (qv a[c]):=by
 have v:=Gx a[c] (l _ (bN o));have j:=fun d (g:d<10)=>tw qv 10 a (fun f s=>Gx f (l f s)) c o d g;obtain⟨b,e,m,r,u⟩:=jj.at k (j 0 (by omega));refine⟨b,e,m,r,fun d x p=>?_⟩;have g:d<10:=by have:=(kN.1 p).1;omega
 obtain⟨t,w,n,_,q⟩:=jj.at k ((j d g).trans p);rw[m]at n;cases n;rw[paj];exact q
structure cw(w:World)(x:Pj)(it:ej):Prop where
 key:BS w x.k it.key
 val:BS w x.v it.more
 dig:x.d=uz
theorem cw.frame{f g:World}{S:Nat->Prop}{b:Pj}{e:ej}(c:cw f b e)(d:bj S f g)(h:∀a,b.k.a=some a->¬S a.block)(i:∀a,b.v.a=some a->¬S a.block):cw g b e:=⟨c.key.frame d h,c.val.frame d i,c.dig⟩
theorem cw.below{w w':World}{d:Pj}{c:ej}(a:cw w d c)(b:Below w.heap.size w w'):cw w' d c:=⟨a.key.below b,a.val.below b,a.dig⟩
def qx(a:List ej):Prop:=a.Pairwise (fun b c=>Op.bytesLess b.key c.key=true)
theorem Yw:∀{c d e:List UInt8},Op.bytesLess c d=true->Op.bytesLess d e=true->Op.bytesLess c e=true
 |_,_,[],b,a=>by cases ‹List UInt8›<;>simp[Op.bytesLess]at a
 |_,[],_::_,b,a=>by cases ‹List UInt8›<;>simp[Op.bytesLess]at b
 |[],_::_,_::_,b,a=>by simp[Op.bytesLess]
 |f::c,g::d,h::e,b,a=>by
  simp only[Op.bytesLess,Bool.or_eq_true,decide_eq_true_eq,Daj,beq_iff_eq]at b a⊢;rcases b with b|⟨rfl,b⟩
  .rcases a with a|⟨rfl,a⟩
   .exact SM (UInt8.lt_trans b a)
   .exact SM b
  .rcases a with a|⟨rfl,a⟩
   .exact SM a
   .exact RM ⟨rfl,Yw b a⟩
theorem Dw:∀(a:List UInt8),Op.bytesLess a a=false
 |[]=>rfl
 |b::a=>by simp[Op.bytesLess,Dw a,UInt8.lt_irrefl]
theorem EX:∀(b c:List UInt8),Op.bytesLess b c=false->b≠c->Op.bytesLess c b=true
 |[],[],_,a=>absurd rfl a
 |[],_::_,a,_=>by simp[Op.bytesLess]at a
 |_::_,[],_,_=>by simp[Op.bytesLess]
 |h::b,i::c,a,g=>by
  simp only[Op.bytesLess,Bool.or_eq_false_iff,decide_eq_false_iff_not,Bool.and_eq_false_iff,Bool.or_eq_true,decide_eq_true_eq,Daj,beq_iff_eq]at a⊢;obtain⟨f,d⟩:=a;by_cases e:h=i
  .subst e;refine RM ⟨rfl,EX b c ?_ (fun e=>g (by rw[e]))⟩;rcases d with d|d
   .simp at d
   .exact d
  .exact SM (UInt8.lt_of_le_of_ne (UInt8.not_lt.1 f) (Ne.symm e))
theorem rx:∀(a:List ej) (c:List UInt8),qx a->∀b (d:b<a.length),Rz c a[b]=decide (b<pj a c)
 |[],_,_,b,d=>absurd d (wN _)
 |n::a,c,m,b,d=>by
  obtain⟨h,i⟩:=List.pairwise_cons.1 m;have g:=rx a c i;unfold pj at g⊢;rw[Zaj];by_cases e:Rz c n=true
  .rw[if_pos e];cases b with
   |zero=>simp[e]
   |succ f=>simpa using g f (by simpa using d)
  .rw[if_neg e];cases b with
   |zero=>simpa using e
   |succ f=>
    have k:f<a.length:=by simpa using d
    have l:=h a[f] (bN k);simp only[gN,baj,wN,decide_false];cases j:Rz c a[f]with
    |false=>rfl
    |true=>exact absurd (Yw l j) e
theorem bW(b:Pj)(d:ej)(f:dj)(e:List UInt8)(a:World)(k:cw a b d)(j:BS a f e):
  CP 62 #[.agg #[b.k.val,b.v.val,.int .u8 0,.int .u8 0,.int .u8 0,.int .u8 0,.int .u8 0,.int .u8 0,.int .u8 0,.int .u8 0],f.val] a fun g l=>g=.returned (.int .i64 (Lib.compareBytes d.key e))/\Below a.heap.size a l:=by
 have c:Below a.heap.size a (a.alloc (.cells #[b.k.val,b.v.val,.int .u8 0,.int .u8 0,.int .u8 0,.int .u8 0,.int .u8 0,.int .u8 0,.int .u8 0,.int .u8 0] 74)):=tO;have i:Hd (Calls _ _ _ _ _):=Hv b.k f d.key e _ (k.key.below c) (j.below c);have h:Hd (Below _ _ _):=c;clear c;unfold dj.val at*;go_enter Tryz.func62,Tryz.ntmps62;go_wp2_with (go_at_call 63;refine i.o.mono ?_;rintro g m ⟨rfl,rfl⟩);go_ret;exact⟨rfl,h.o⟩
theorem cW(C:Option Addr)(a4 g:Nat)(j:List Pj)(d:List ej)(A:dj)(h:List UInt8)(m:World)(O:g=j.length)(ad:d.length=j.length)(a5:j.length<=60)(S:Mk m C j)
  (x:∀c (w:c<j.length) (am:c<d.length),cw m j[c] d[c])(R:qx d)(N:BS m A h):
  CP 61 #[.slice C g a4,A.val,.func (.func 62) #[] #[]] m fun k F=>k=.returned (.tuple #[.int .i64 (pj d h:Int),.bool (Qj d h)])/\Below m.heap.size m F:=by
 have K:∀i∈j,i.d.length=8:=fun i ak=>by
  obtain⟨c,M,rfl⟩:=PN ak;rw[(x c M (by omega)).dig];rfl
 have I:=rx d h R;have Q:=Ky d h;have E:Hd (Qj d h=((d[pj d h]?).map (fun i=>i.key==h)).getD false):=rfl;generalize y:Qj d h=z at*;generalize ag:pj d h=l at*;have J:Hd (∀(wr:World),BB m wr->∀a,a<g->∃o q r s n,C=some ⟨o,q,none⟩/\wr.rangeAt o (q+a*10) [r,s,.int .u8 0,.int .u8 0,.int .u8 0,.int .u8 0,.int .u8 0,.int .u8 0,.int .u8 0,.int .u8 0]/\
   CP 62 #[.agg #[r,s,.int .u8 0,.int .u8 0,.int .u8 0,.int .u8 0,.int .u8 0,.int .u8 0,.int .u8 0,.int .u8 0],A.val] wr (fun k F=>k=.returned (.int .i64 n)/\Below wr.heap.size wr F)/\
   r.cells=#[r]/\s.cells=#[s]/\(n<0↔a<l)/\(a=l->z=(n==0))):=fun wr f a w=>by
  subst O;obtain⟨o,q,a6,a7,b⟩:=Mk.range S K a w;refine⟨o,q,j[a].k.val,j[a].v.val,Lib.compareBytes (d[a]'(by omega)).key h,a6,fun e al ah=>?_,?_,rfl,rfl,?_,?_⟩
  .rw[f.cell (p:=⟨o,q+a*10+e,none⟩) a7];refine b e al ?_;unfold qv;rw[(x a w (by omega)).dig];exact ah
  .exact bW j[a] (d[a]'(by omega)) A h wr ((x a w (by omega)).below f) (N.below f)
  .rw[Tx];have:=I a (by omega);unfold Rz at this;rw[this];simp
  .intro k;subst k;rw[E.o,UM (by omega)];simp only[GN,Option.getD_some];rw[caj];simp[IY]
 have U:Hd (g=l->z=false):=fun k=>by
  rw[E.o,Saj (by omega)];rfl
 have Q:l<=g:=by omega
 have a5:g<=60:=by omega
 clear x S N I R K y ag E O ad;unfold dj.val at*;go_enter Tryz.func61,Tryz.ntmps61;go_wp2
 go_loopw [9,10,11] (fun i G _ wr=>∃c e:Nat,c<=l/\l<=e/\e<=g/\i=.int .i64 c/\G=.int .i64 e/\Below m.heap.size m wr) (fun i G _ _=>(intOf G).toNat - (intOf i).toNat)
 case atStart=>exact⟨0,g,by omega,Q,by omega,by simp,by simp,VM _ _⟩
 case round=>
  obtain⟨c,e,M,av,ax,rfl,rfl,f⟩:=hrel;by_cases af:c<e
  .have aA:(c:Int)<e:=by omega
   obtain⟨a,a8⟩:∃a:Nat,a=(c+e)/2:=⟨_,rfl⟩;have ap:((c:Int)+e)/2=a:=by omega
   have a9:a<g:=by omega
   have ar:c<=a:=by omega
   have au:a<e:=by omega
   have an:(a:Int)<g:=by omega
   have ao:(a:Int)<=60:=by omega
   clear a8;obtain⟨o,q,r,s,n,rfl,b,u,ac,ai,P,_⟩:=J.o wr f a a9;have v:Hd (Calls _ _ _ _ _):=u;have H:Hd (n<0↔a<l):=P;clear u P;have D:=b 0 _ rfl;have V:=b 1 _ rfl;have W:=b 2 _ rfl;have X:=b 3 _ rfl;have Y:=b 4 _ rfl;have Z:=b 5 _ rfl;have a0:=b 6 _ rfl;have a1:=b 7 _ rfl;have a2:=b 8 _ rfl;have a3:=b 9 _ rfl;clear b;simp only[eaj]at D;by_cases L:n<0
   .have ae:=H.o.1 L;go_wp2_with (go_at_call 62;refine v.o.mono ?_;rintro k T ⟨rfl,t⟩);refine⟨⟨a+1,e,by omega,by omega,by omega,by go_num,by simp,f.trans (t.mono f.size)⟩,?_⟩;simp[intOf];omega
   .have ae:¬a<l:=fun i=>L (H.o.2 i);go_wp2_with (go_at_call 62;refine v.o.mono ?_;rintro k T ⟨rfl,t⟩);refine⟨⟨c,a,by omega,by omega,by omega,by simp,by simp,f.trans (t.mono f.size)⟩,?_⟩;simp[intOf];omega
  .obtain rfl:c=e:=by omega
   obtain rfl:c=l:=by omega
   clear af;by_cases aa:c<g
   .have ab:(c:Int)<g:=by omega
    obtain⟨o,q,r,s,n,rfl,b,u,ac,ai,_,y⟩:=J.o wr f c aa;have v:Hd (Calls _ _ _ _ _):=u;have B:Hd (z=(n==0)):=y rfl;clear u y;have D:=b 0 _ rfl;have V:=b 1 _ rfl;have W:=b 2 _ rfl;have X:=b 3 _ rfl;have Y:=b 4 _ rfl;have Z:=b 5 _ rfl;have a0:=b 6 _ rfl;have a1:=b 7 _ rfl;have a2:=b 8 _ rfl;have a3:=b 9 _ rfl;clear b;simp only[eaj]at D;go_wp2_with (go_at_call 62;refine v.o.mono ?_;rintro k T ⟨rfl,t⟩)
    go_ret2
    exact⟨by rw[B.o];rfl,f.trans (t.mono f.size)⟩
   .have ab:¬(c:Int)<g:=by omega
    have B:Hd (z=false):=U.o (by omega);go_wp2
    go_ret2
    exact⟨by rw[B.o];rfl,f⟩
end
end Go.Proofs.YtekegfbjbainhaaGreat
