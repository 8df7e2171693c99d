import Derived.Test.YtekegfbjbainhaaGreatKJoin11
import Derived.Deep.DeepCutAuto
set_option maxRecDepth 100000
set_option maxHeartbeats 10000000
set_option linter.unusedVariables false
set_option linter.unusedSimpArgs false
namespace Go.Proofs.YtekegfbjbainhaaGreat
open Go.RowKit
section
theorem LU{a:List ej}(i:qx a)(b value:List UInt8):qx (Ek a b value):=by
 have u:=rx a b i;have x:=Ky a b;have r:∀h∈a.take (pj a b),Op.bytesLess h.key b=true:=fun h f=>by
  obtain⟨g,k,rfl⟩:=PN f;rw[aN]at k;rw[List.getElem_take];have:=u g (by omega);unfold Rz at this;rw[this];simp;omega
 have t:∀m (l:m<a.length),pj a b<=m->Op.bytesLess a[m].key b=false:=fun m l y=>by
  have:=u m l;unfold Rz at this;rw[this];simp;omega
 have q:∀h∈a.drop (if Qj a b then pj a b+1 else pj a b),Op.bytesLess b h.key=true:=by
  cases e:Qj a b with
  |false=>
   intro h f;simp only[Uaj,if_false]at f;obtain⟨g,k,rfl⟩:=PN f;rw[List.getElem_drop];rw[oN]at k;have l:pj a b+g<a.length:=by omega
   refine EX _ _ (t _ l (by omega)) (fun p=>?_);by_cases v:g=0
   .subst v;have s:Qj a b=true:=by
     unfold Qj;rw[UM (by omega)];simpa using p
    rw[e]at s;cases s
   .have d:=Vaj.1 i (pj a b) (pj a b+g) (by omega) l (by omega);rw[p]at d;rw[t _ (by omega) (TM _)]at d;cases d
  |true=>
   intro h f;simp only[if_true]at f;obtain⟨g,k,rfl⟩:=PN f;rw[List.getElem_drop];rw[oN]at k;have w:(a[pj a b]'(Lv e)).key=b:=by
    have d:=Lv e;unfold Qj at e;rw[UM d]at e;simpa using e
   have d:=Vaj.1 i (pj a b) (pj a b+1+g) (Lv e) (by omega) (by omega);rw[w]at d;exact d
 unfold Ek qx;rw[bbj,bbj];refine⟨⟨i.sublist (List.take_sublist _ _),by simp,?_⟩,i.sublist (List.drop_sublist _ _),?_⟩
 .intro n c o j;simp only[eN]at j;subst j;exact r n c
 .intro n c o j;rcases fN.1 c with c|c
  .exact Yw (r n c) (q o j)
  .simp only[eN]at c;subst c;exact q o j
theorem MU{a:List ej}(c:qx a)(b:List UInt8):qx (uw a b):=by
 unfold uw qx;have e:(a.take (pj a b)++a.drop (pj a b+1)).Sublist a:=by
  have d:(a.take (pj a b)++a.drop (pj a b+1)).Sublist (a.take (pj a b)++a.drop (pj a b)):=List.Sublist.append (List.Sublist.refl _) (by rw[<-List.drop_drop];exact List.drop_sublist _ _)
  rwa [Naj]at d
 exact List.Pairwise.sublist e c
theorem gU{d:List ej}{c value:List UInt8}{b:ej}(a:b∈Ek d c value):b∈d\/b=⟨c,value,0⟩:=by
 unfold Ek at a;simp only[fN,eN]at a;rcases a with(a|a)|a
 .exact SM (TN a)
 .exact RM a
 .exact SM (laj a)
theorem hU{b:List ej}{d:List UInt8}{c:ej}(a:c∈uw b d):c∈b:=by
 unfold uw at a;rcases fN.1 a with a|a
 .exact TN a
 .exact laj a
theorem TL{a:List ej}(c value:List UInt8)(e:a.length<=60)(d:Qj a c=false->a.length<60):(Ek a c value).length<=60:=by
 have f:=Ky a c;unfold Ek;cases b:Qj a c with
 |false=>have:=d b;simp[b];omega
 |true=>have:=Lv b;simp[b];omega
theorem UL{a:List ej}(b:List UInt8)(c:a.length<=60):(uw a b).length<=60:=by
 unfold uw;simp;omega
def Zj(a:List UInt8):Bool:=decide (1<=a.length)&&decide (a.length<=12)
def jk(b:List ej)(a value:List UInt8):Nat:=if(Zj a&&decide (value.length<=12))=false then 1 else if Qj b a=false/\b.length=60 then 2 else 0
def qk(a:List ej)(b value:List UInt8):List ej:=if jk a b value=0 then Ek a b value else a
def rk(b:List ej)(a:List UInt8):Nat:=if Zj a=false then 1 else if Qj b a=false then 3 else 0
def uk(a:List ej)(b:List UInt8):List ej:=if rk a b=0 then uw a b else a
theorem VL(g H:Nat)(m o:dj)(n:Option Nat)(u:List Tj)(p:List Pj)(d:List ej)(A:List Nd)(k l:dj)(c value:List UInt8)(h:World)(a:Az h g H m o n u p d A)(w:BS h k c)(x:BS h l value)(P:c.length<=maxLen)(R:value.length<=maxLen):
  CP 40 #[.pointer (some ⟨g,0,none⟩),k.val,l.val] h fun f s=>f=.returned (.int .i64 (jk d c value:Int))/\∃t B,Az s g H t o n u B (qk d c value) A/\bj (fun e=>e=g) h s/\(∀e,Ux g t o n u B A e->e<h.heap.size->Ux g m o n u p A e):=by
 have S:=a.ent.len;by_cases q:(Zj c&&decide (value.length<=12))=false
 .have i:jk d c value=1:=by unfold jk;rw[if_pos q]
  have r:qk d c value=d:=by unfold qk;rw[i];rfl
  rw[i,r];refine(RL (.pointer (some ⟨g,0,none⟩)) k.a l.a k.n k.cap l.n l.cap h (by rw[w.n];exact P) (by rw[x.n];exact R) (by rw[w.n,x.n];exact q)).mono ?_;rintro f s ⟨rfl,rfl⟩;exact⟨rfl,m,p,a,bj.refl _ _,fun e b _=>b⟩
 .have y:Zj c=true/\value.length<=12:=by
   have:=(Waj _).mp q;simpa using this
  have b:1<=c.length/\c.length<=12:=by have:=y.1;unfold Zj at this;simpa using this
  by_cases z:Qj d c=false/\d.length=60
  .have i:jk d c value=2:=by unfold jk;rw[if_neg q,if_pos z]
   have r:qk d c value=d:=by unfold qk;rw[i];rfl
   rw[i,r];refine(QH g m o n p d k l c h a.row a.ent a.rise (by omega) w b.1 b.2 (by rw[x.n];exact y.2) z.1).mono ?_;rintro f s ⟨rfl,J⟩;exact⟨rfl,m,p,a.below J,bj.of_below_all J,fun e b _=>b⟩
  .have i:jk d c value=0:=by unfold jk;rw[if_neg q,if_neg z]
   have r:qk d c value=Ek d c value:=by unfold qk;rw[i];rfl
   rw[i,r];have K:Qj d c=false->d.length<60:=fun E=>by
    have:=a.len;by_cases O:d.length=60
    .exact absurd ⟨E,O⟩ z
    .omega
   refine(DM g m o n p d k l c value h a.row (fun e b f=>a.entf e b (SM f)) a.ent a.rise (by have:=a.len;omega) w x b.1 b.2 y.2 (fun E=>by have:=K E;omega)).mono ?_;rintro f s ⟨rfl,t,B,M,N,v,I⟩;have Q:=aj.lt a.row;refine⟨rfl,t,B,⟨M,a.known.frameSb v (Az.mp_ne a.row a.known),N,fun e b L=>?_,ij a.own v (fun e b f=>a.trf e b (SM f)),a.trf,fun F D=>⟨(a.nds F D).1.frame v (fun e b f=>(a.nds F D).2 e b (SM f)),(a.nds F D).2⟩,LU a.rise c value,?_,?_,TL c value a.len K⟩,v,?_⟩
   .have C:=Bj.lt a.known Q e L;exact a.entf e (I e b C) L
   .intro G j;rcases gU j with j|rfl
    .exact a.ok G j
    .exact⟨b.2,y.2⟩
   .intro G j;rcases gU j with j|rfl
    .exact a.norm G j
    .rfl
   .intro e b C;rcases b with b|b|b
    .exact SM b
    .exact RM (SM (I e b C))
    .exact RM (RM b)
theorem WL(h F:Nat)(l n:dj)(m:Option Nat)(u:List Tj)(o:List Pj)(f:List ej)(y:List Nd)(k:dj)(d:List UInt8)(j:World)(b:Az j h F l n m u o f y)(w:BS j k d)(S:d.length<=maxLen):
  CP 42 #[.pointer (some ⟨h,0,none⟩),k.val] j fun g s=>g=.returned (.int .i64 (rk f d:Int))/\∃t z,Az s h F t n m u z (uk f d) y/\bj (fun e=>e=h) j s/\(∀e,Ux h t n m u z y e->e<j.heap.size->Ux h l n m u o y e):=by
 have W:=b.ent.len;by_cases q:Zj d=false
 .have i:rk f d=1:=by unfold rk;rw[if_pos q]
  have r:uk f d=f:=by unfold uk;rw[i];rfl
  rw[i,r];refine(SL (.pointer (some ⟨h,0,none⟩)) k.a k.n k.cap j (by rw[w.n];exact S) (by rw[w.n];exact q)).mono ?_;rintro g s ⟨rfl,rfl⟩;exact⟨rfl,l,o,b,bj.refl _ _,fun e c _=>c⟩
 .have K:Zj d=true:=(Waj _).mp q;have c:1<=d.length/\d.length<=12:=by unfold Zj at K;simpa using K
  by_cases x:Qj f d=false
  .have i:rk f d=3:=by unfold rk;rw[if_neg q,if_pos x]
   have r:uk f d=f:=by unfold uk;rw[i];rfl
   rw[i,r];refine(RH h l n m o f k d j b.row b.ent b.rise (by have:=b.len;omega) w c.1 c.2 x).mono ?_;rintro g s ⟨rfl,L⟩;exact⟨rfl,l,o,b.below L,bj.of_below_all L,fun e c _=>c⟩
  .have N:Qj f d=true:=(Waj _).mp x;have i:rk f d=0:=by unfold rk;rw[if_neg q,if_neg x]
   have r:uk f d=uw f d:=by unfold uk;rw[i];rfl
   rw[i,r];have V:=Lv N;obtain⟨H,O,G⟩:=l;obtain⟨U,_,_,R⟩:=vj (a:=H) (n':=O) (cap:=G) b.ent.own;obtain⟨p,rfl,_⟩:∃p,H=some ⟨p,0,none⟩/\True:=by
    rcases R with⟨_,J,_⟩|⟨p,J,_⟩
    .omega
    .exact⟨p,J,trivial⟩
   refine(SH h p O G n m o f k d j b.row (fun e c g=>b.entf e c (SM g)) b.ent b.rise (by have:=b.len;omega) w c.1 c.2 N).mono ?_;rintro g s ⟨rfl,t,z,P,Q,v,I⟩;have T:=aj.lt b.row;refine⟨rfl,t,z,⟨P,b.known.frameSb v (Az.mp_ne b.row b.known),Q,fun e c M=>?_,ij b.own v (fun e c g=>b.trf e c (SM g)),b.trf,fun D B=>⟨(b.nds D B).1.frame v (fun e c g=>(b.nds D B).2 e c (SM g)),(b.nds D B).2⟩,MU b.rise d,?_,?_,UL d b.len⟩,v,?_⟩
   .have A:=Bj.lt b.known T e M;exact b.entf e (I e c A) M
   .intro E C;exact b.ok E (hU C)
   .intro E C;exact b.norm E (hU C)
   .intro e c A;rcases c with c|c|c
    .exact SM c
    .exact RM (SM (I e c A))
    .exact RM (RM c)
theorem NU(h:Value)(b:Option Addr)(a c:Nat)(e:World)(g:a<=maxLen)(f:(decide (1<=a)&&decide (a<=12))=false):
  CP 43 #[h,.slice b a c] e fun d i=>d=.returned (.int .i64 1)/\i=e:=by
 go_enter Tryz.func43,Tryz.ntmps43;go_wp2_with fail;refine(yq b a c _ g).mono ?_;rintro d j ⟨rfl,rfl⟩;rw[f];go_wp2;go_ret;exact⟨rfl,rfl⟩
theorem nW(f:Nat)(p A B:Value)(d:Option Addr)(g r:Nat)(c:List ej)(a:List UInt8)(b:World)(v:1<=a.length)(w:a.length<=12)(E:c.length<=60)
  (m:Vv b f p A B)(l:jz b r p c)(t:jq b d a)(x:d=none->g=0)(y:Qj c a=false):
  CP 43 #[.pointer (some ⟨f,0,none⟩),.slice d a.length g] b fun e i=>e=.returned (.int .i64 3)/\∃h,i=b.drewN h:=by
 obtain⟨j,k,rfl,n,_⟩:=Nj l;have s:b.cell? ⟨f,0,none⟩=some (.slice j c.length k):=m.cell 0 (by simp);have D:=wj (P:=Tryz.prog) b 38 9 5 d a.length g a Tryz.underlying38 Tryz.underlying5 Tryz.underlying9 rfl t x;have u:(decide (1<=a.length)&&decide (a.length<=12))=true:=by simp[v,w]
 have q:Hd (CP 80 #[.pointer (some ⟨f,0,none⟩),Hz a] b fun e i=>e=.returned (.tuple #[.int .i64 (pj c a:Int),.bool false])/\∃h,i=b.drewN h):=by have:=Kw f j k c a b (by omega) s n;rw[y]at this;exact this
 generalize pj c a=F at*;clear l m n;go_enter Tryz.func43,Tryz.ntmps43;go_wp2_with fail;refine(yq d _ g _ (by unfold maxLen;omega)).mono ?_;rintro e C ⟨rfl,o⟩;obtain rfl:b=C:=o.symm;clear o;rw[u];go_wp2_with fail;refine q.o.mono ?_;rintro e G ⟨rfl,z,rfl⟩;go_wp2;go_ret;exact⟨rfl,z,rfl⟩
theorem oW(c h g i:Nat)(X Y:Value)(r:Option Addr)(s a4:Nat)(d:List ej)(f:List UInt8)(b:World)(am:1<=f.length)(an:f.length<=12)(ap:d.length<=60)(v:g=d.length)
  (u:Vv b c (.slice (some ⟨h,0,none⟩) g i) X Y)(aa:jz b a4 (.slice (some ⟨h,0,none⟩) g i) d)(a9:jq b r f)(ao:r=none->s=0)(I:Qj d f=true):
  CP 43 #[.pointer (some ⟨c,0,none⟩),.slice r f.length s] b fun l z=>l=.returned (.int .i64 0)/\
   ∃W,Vv z c W X Y/\jz z b.heap.size W (uw d f)/\bj (fun e=>e=c) b z:=by
 have C:=aa;rw[v]at C;obtain⟨_,ad,ag,ah⟩:=vj C;obtain⟨_,_,au,D,_⟩:=Nj C;cases au;clear ah C;unfold maxLen at ag;have o:c<b.heap.size:=u.lt;have t:b.cell? ⟨c,0,none⟩=some (.slice (some ⟨h,0,none⟩) g i):=u.cell 0 (by simp);have V:b.frozen? ⟨c,0,none⟩=false:=u.frozen 0;have T:=wj (P:=Tryz.prog) b 38 9 5 r f.length s f Tryz.underlying38 Tryz.underlying5 Tryz.underlying9 rfl a9 ao;have U:(decide (1<=f.length)&&decide (f.length<=12))=true:=by simp[am,an]
 have M:Hd (uw d f=d.take (pj d f)++d.drop (pj d f+1)):=rfl;have ai:=Lv I;have N:Hd (CP 80 #[.pointer (some ⟨c,0,none⟩),Hz f] b fun l z=>l=.returned (.tuple #[.int .i64 (pj d f:Int),.bool true])/\∃g,z=b.drewN g):=by
  have R:=t;rw[v]at R;have:=Kw c _ i d f b (by omega) R D;rw[I]at this;exact this
 generalize pj d f=a at*;have O:Hd (Aq b (some ⟨h,0,none⟩) (d.take a)):=Aq.take D a (by omega);have a1:Hd (Aq b (some ⟨h,(a+1)*3,none⟩) (d.drop (a+1))):=by have:=Aq.drop D (a+1) (by omega);rw[sN]at this;exact this
 have Q:Hd (a=(d.take a).length):=by unfold Hd;rw[aN];omega
 have Z:Hd (g - (a+1)=(d.drop (a+1)).length):=by unfold Hd;rw[oN,v]
 have B:Hd ((d.take a).length+1+(d.drop (a+1)).length<=1000):=by unfold Hd;rw[aN,oN];omega
 have ak:(a:Int)+1<=g:=by omega
 have af:(g:Int)<=i:=by omega
 have aB:(i:Int)<=9223372036854775807:=by omega
 have al:a+1<=g:=by omega
 have ar:g<=i:=by omega
 have L:Hd (g=d.length):=v;have aE:a<=1000:=by omega
 clear D v ai ad ap I;by_cases ae:i=a+1
 .have a2:Hd (Aq b (some ⟨h,0,none⟩) (d.drop (a+1))):=by
   unfold Hd;rw[xaj (by have:=L.o;omega)];exact Aq.none
  have a0:Hd (0=(d.drop (a+1)).length):=by
   unfold Hd;rw[oN];have:=L.o;omega
  subst ae;obtain rfl:g=a+1:=by omega
  clear ak af al ar;have aC:(a:Int)<=(a:Int)+1:=by omega
  have aD:(a:Int)<=1000:=by omega
  go_enter Tryz.func43,Tryz.ntmps43;go_wp2_with fail;refine(yq r _ s _ (by unfold maxLen;omega)).mono ?_;rintro l K ⟨rfl,y⟩;obtain rfl:b=K:=y.symm;clear y;rw[U];go_wp2_with fail;refine N.o.mono ?_;rintro l aA ⟨rfl,av,rfl⟩;clear T;go_wp2_with (first
   |(at_builtin;refine Bq (by rfl) (.tmp 22) (.tmp 28) (by rfl) b.heap.size (.slice none 0 0) [] (by rfl) (iN _ _ _ _) (some ⟨h,0,none⟩) a (a+1) (d.take a) (by rfl) Q.o (by exact O.o) (fun q=>by cases q) (by have:=B.o;simp only[baj];omega) (by exact TM _) ?_;intro E J F A w G ab;have j:Below b.heap.size b A:=Pz (G.below (by exact TM _) (fun e k=>by simp[Value.ownBlock]at k));have a7:A.cell? ⟨c,0,none⟩=some (.slice (some ⟨h,0,none⟩) (a+1) (a+1)):=(by rw[j.cell (p:=⟨c,0,none⟩) o];exact t))
   |(at_builtin;refine Bq (by rfl) (.tmp 31) (.tmp 38) (by rfl) b.heap.size (.slice E J F) ([]++d.take a) (by rfl) w (some ⟨h,0,none⟩) 0 0 (d.drop (a+1)) (by rfl) (by exact a0.o) (by exact jj.below_all a2.o j) (fun q=>by cases q) (by have:=B.o;simp only[ON];omega) (by have:=j.size;omega) ?_;intro a3 ax a5 n x H ac;have m:Below b.heap.size b n:=j.trans (H.below (by have:=j.size;omega) (fun e k=>(w.lt e k).1));have a8:n.cell? ⟨c,0,none⟩=some (.slice (some ⟨h,0,none⟩) (a+1) (a+1)):=(by rw[m.cell (p:=⟨c,0,none⟩) o];exact t);have a6:n.frozen? ⟨c,0,none⟩=false:=(by rw[m.frozen (p:=⟨c,0,none⟩) o];exact V)))
  go_ret;refine⟨rfl,_,(u.below o m).set 0 _,?_,(bj.of_below_all (S:=fun e=>e=c) m).setCell (p:=⟨c,0,none⟩) rfl _⟩;rw[M.o];exact ij x ((bj.refl (fun e=>e=c) n).setCell (p:=⟨c,0,none⟩) rfl _) (fun e k l=>by have:=(x.lt e k).1;omega)
 .go_enter Tryz.func43,Tryz.ntmps43;go_wp2_with fail;refine(yq r _ s _ (by unfold maxLen;omega)).mono ?_;rintro l K ⟨rfl,y⟩;obtain rfl:b=K:=y.symm;clear y;rw[U];go_wp2_with fail;refine N.o.mono ?_;rintro l aA ⟨rfl,av,rfl⟩;clear T;go_wp2_with (first
   |(at_builtin;refine Bq (by rfl) (.tmp 22) (.tmp 28) (by rfl) b.heap.size (.slice none 0 0) [] (by rfl) (iN _ _ _ _) (some ⟨h,0,none⟩) a i (d.take a) (by rfl) Q.o (by exact O.o) (fun q=>by cases q) (by have:=B.o;simp only[baj];omega) (by exact TM _) ?_;intro E J F A w G ab;have j:Below b.heap.size b A:=Pz (G.below (by exact TM _) (fun e k=>by simp[Value.ownBlock]at k));have a7:A.cell? ⟨c,0,none⟩=some (.slice (some ⟨h,0,none⟩) g i):=(by rw[j.cell (p:=⟨c,0,none⟩) o];exact t))
   |(at_builtin;refine Bq (by rfl) (.tmp 31) (.tmp 38) (by rfl) b.heap.size (.slice E J F) ([]++d.take a) (by rfl) w (some ⟨h,(a+1)*3,none⟩) (g - (a+1)) (i - (a+1)) (d.drop (a+1)) (by rfl) (by exact Z.o) (by exact jj.below_all a1.o j) (fun q=>by cases q) (by have:=B.o;simp only[ON];omega) (by have:=j.size;omega) ?_;intro a3 ax a5 n x H ac;have m:Below b.heap.size b n:=j.trans (H.below (by have:=j.size;omega) (fun e k=>(w.lt e k).1));have a8:n.cell? ⟨c,0,none⟩=some (.slice (some ⟨h,0,none⟩) g i):=(by rw[m.cell (p:=⟨c,0,none⟩) o];exact t);have a6:n.frozen? ⟨c,0,none⟩=false:=(by rw[m.frozen (p:=⟨c,0,none⟩) o];exact V)))
  go_ret;refine⟨rfl,_,(u.below o m).set 0 _,?_,(bj.of_below_all (S:=fun e=>e=c) m).setCell (p:=⟨c,0,none⟩) rfl _⟩;rw[M.o];exact ij x ((bj.refl (fun e=>e=c) n).setCell (p:=⟨c,0,none⟩) rfl _) (fun e k l=>by have:=(x.lt e k).1;omega)
def xw(f:Nat)(b c g:dj)(d:List (dj×List ej))(a:Nat):Prop:=a=f\/b.val.ownBlock=some a\/c.val.ownBlock=some a\/g.val.ownBlock=some a\/∃e∈d,e.1.val.ownBlock=some a
theorem Yj.lt{i:World}{g j:Nat}{d e h:dj}{l:List ej}{f:List (dj×List ej)}{n:List (List UInt8)}(c:Yj i g j d e h l f n):∀b,xw g d e h f b->b<i.heap.size:=fun b a=>by
 rcases a with rfl|a|a|a|⟨m,k,a⟩
 .exact aj.lt c.row
 .exact(World.ownsRow.lt c.hnow b a).2
 .exact(c.hpast.lt b a).2
 .exact(c.hroots.lt b a).2
 .exact(World.ownsRow.lt (c.hpok m k) b a).2
theorem Yj.frame{q k:World}{S:Nat->Prop}{i l:Nat}{f g j:dj}{n:List ej}{h:List (dj×List ej)}{p:List (List UInt8)}(b:Yj q i l f g j n h p)(e:bj S q k)(d:∀a,xw i f g j h a->¬S a):Yj k i l f g j n h p:=
 ⟨aj.of_block b.row (e.block _ (aj.lt b.row) (d _ (SM rfl))),ij b.hnow e (fun a c=>d a (RM (SM c))),ij b.hpast e (fun a c=>d a (RM (RM (SM c)))),fun o m=>ij (b.hpok o m) e (fun a c=>d a (RM (RM (RM (RM ⟨o,m,c⟩))))),ij b.hroots e (fun a c=>d a (RM (RM (RM (SM c))))),b.h8⟩
theorem Yj.renow{i j:World}{d:Nat}{o f g:dj}{w m:List ej}{h:List (dj×List ej)}{r:List (List UInt8)}(c:Yj i d 0 o f g w h r){s:Value}(v:Vv j d s f.val g.val)(l:jz j i.heap.size s m)(k:bj (fun b=>b=d) i j):
  ∃p,Yj j d 0 p f g m h r/\(∀b,xw d p f g h b->b<i.heap.size->xw d o f g h b):=by
 obtain⟨t,u,rfl,_⟩:=Nj l;refine⟨⟨t,m.length,u⟩,⟨v,Hj l (fun b _=>nN b),ij c.hpast k (fun b a e=>xj c.hpast c.row (by decide) (by rw[a,e])),fun q n=>ij (c.hpok q n) k (fun b a e=>xj (c.hpok q n) c.row (by decide) (by rw[a,e])),ij c.hroots k (fun b a e=>xj c.hroots c.row (by decide) (by rw[a,e])),c.h8⟩,?_⟩;intro b a x;rcases a with a|a|a
 .exact SM a
 .have:=(World.ownsRow.lt l b a).1;omega
 .exact RM (RM a)
theorem XL(g:Nat)(o l m:dj)(c:List ej)(z:List (dj×List ej))(P:List (List UInt8))(i j:dj)(b value:List UInt8)(d:World)(e:Yj d g 0 o l m c z P)(x:c.length<=60)(n:BS d i b)(t:BS d j value)(X:b.length<=maxLen)(a1:value.length<=maxLen)(E:i.a=none->i.cap=0)(L:j.a=none->j.cap=0):
  CP 41 #[.pointer (some ⟨g,0,none⟩),i.val,j.val] d fun r q=>r=.returned (.int .i64 (jk c b value:Int))/\∃p,Yj q g 0 p l m (qk c b value) z P/\bj (fun k=>k=g) d q/\(∀k,xw g p l m z k->k<d.heap.size->xw g o l m z k):=by
 by_cases u:(Zj b&&decide (value.length<=12))=false
 .have h:jk c b value=1:=by unfold jk;rw[if_pos u]
  have x:qk c b value=c:=by unfold qk;rw[h];rfl
  rw[h,x];refine(BU (.pointer (some ⟨g,0,none⟩)) i.a j.a i.n i.cap j.n j.cap d (by rw[n.n];exact X) (by rw[t.n];exact a1) (by rw[n.n,t.n];exact u)).mono ?_;rintro r q ⟨rfl,rfl⟩;exact⟨rfl,o,e,bj.refl _ _,fun k f _=>f⟩
 .have y:Zj b=true/\value.length<=12:=by
   have:=(Waj _).mp u;simpa using this
  have f:1<=b.length/\b.length<=12:=by have:=y.1;unfold Zj at this;simpa using this
  obtain⟨G,a2,H⟩:=i;obtain⟨I,a6,J⟩:=j;have Q:a2=b.length:=n.n;have R:a6=value.length:=t.n;subst Q R;by_cases w:Qj c b=false/\c.length=60
  .have h:jk c b value=2:=by unfold jk;rw[if_neg u,if_pos w]
   have x:qk c b value=c:=by unfold qk;rw[h];rfl
   rw[h,x];refine(YK g o.val l.val m.val G I H _ J 0 c b d f.1 f.2 y.2 w.2 e.row e.hnow n.sl E w.1).mono ?_;rintro r q ⟨rfl,a3,rfl⟩;have K:Below d.heap.size d (d.drewN a3):=have v:=VM d.heap.size d;⟨v.os,v.tape,v.output,v.size,v.block⟩;exact⟨rfl,o,e.below K,bj.of_below_all K,fun k f _=>f⟩
  .have h:jk c b value=0:=by unfold jk;rw[if_neg u,if_neg w]
   have Y:qk c b value=Ek c b value:=by unfold qk;rw[h];rfl
   rw[h,Y];have W:Qj c b=false->c.length<60:=fun a0=>by
    by_cases T:c.length=60
    .exact absurd ⟨a0,T⟩ w
    .omega
   obtain⟨a4,O,N⟩:=o;obtain⟨F,a7,_,U⟩:=vj (a:=a4) (n':=O) (cap:=N) e.hnow;rcases U with⟨rfl,M,V⟩|⟨S,rfl,_,_⟩
   .have Z:c=[]:=ZN.1 M;subst Z;subst V;rw[M]at F;subst F;refine(CU g l.val m.val G I H J b value d f.1 f.2 y.2 e.row n.sl t.sl E L).mono ?_;rintro r q ⟨rfl,a5,A,B,s⟩;obtain⟨p,C,D⟩:=Yj.renow e A B s;exact⟨rfl,p,C,s,D⟩
   .refine(ZK g S O N l.val m.val G I H J 0 c b value d f.1 f.2 y.2 x F e.row e.hnow n.sl t.sl E L W).mono ?_;rintro r q ⟨rfl,a5,A,B,s⟩;obtain⟨p,C,D⟩:=Yj.renow e A B s;exact⟨rfl,p,C,s,D⟩
theorem YL(e:Nat)(k l m:dj)(c:List ej)(v:List (dj×List ej))(G:List (List UInt8))(i:dj)(b:List UInt8)(d:World)(f:Yj d e 0 k l m c v G)(t:c.length<=60)(n:BS d i b)(O:b.length<=maxLen)(A:i.a=none->i.cap=0):
  CP 43 #[.pointer (some ⟨e,0,none⟩),i.val] d fun r q=>r=.returned (.int .i64 (rk c b:Int))/\∃u,Yj q e 0 u l m (uk c b) v G/\bj (fun j=>j=e) d q/\(∀j,xw e u l m v j->j<d.heap.size->xw e k l m v j):=by
 by_cases o:Zj b=false
 .have g:rk c b=1:=by unfold rk;rw[if_pos o]
  have t:uk c b=c:=by unfold uk;rw[g];rfl
  rw[g,t];refine(NU (.pointer (some ⟨e,0,none⟩)) i.a i.n i.cap d (by rw[n.n];exact O) (by rw[n.n];exact o)).mono ?_;rintro r q ⟨rfl,rfl⟩;exact⟨rfl,k,f,bj.refl _ _,fun j h _=>h⟩
 .have y:Zj b=true:=(Waj _).mp o;have h:1<=b.length/\b.length<=12:=by unfold Zj at y;simpa using y
  obtain⟨C,Q,D⟩:=i;have H:Q=b.length:=n.n;subst H;by_cases s:Qj c b=false
  .have g:rk c b=3:=by unfold rk;rw[if_neg o,if_pos s]
   have w:uk c b=c:=by unfold uk;rw[g];rfl
   rw[g,w];refine(nW e k.val l.val m.val C D 0 c b d h.1 h.2 t f.row f.hnow n.sl A s).mono ?_;rintro r q ⟨rfl,R,rfl⟩;have z:Below d.heap.size d (d.drewN R):=have p:=VM d.heap.size d;⟨p.os,p.tape,p.output,p.size,p.block⟩;exact⟨rfl,k,f.below z,bj.of_below_all z,fun j h _=>h⟩
  .have B:Qj c b=true:=(Waj _).mp s;have g:rk c b=0:=by unfold rk;rw[if_neg o,if_neg s]
   have w:uk c b=uw c b:=by unfold uk;rw[g];rfl
   rw[g,w];have V:=Lv B;obtain⟨S,F,E⟩:=k;obtain⟨P,U,_,N⟩:=vj (a:=S) (n':=F) (cap:=E) f.hnow;rcases N with⟨rfl,W,T⟩|⟨I,rfl,_,_⟩
   .omega
   .refine(oW e I F E l.val m.val C D 0 c b d h.1 h.2 t P f.row f.hnow n.sl A B).mono ?_;rintro r q ⟨rfl,X,J,K,x⟩;obtain⟨u,L,M⟩:=Yj.renow f J K x;exact⟨rfl,u,L,x,M⟩
structure mG(p:List ej):Prop where
 rise:qx p
 ok:∀x∈p,Dq x
 norm:∀x∈p,x.below=0
 len:p.length<=60
def QX(b:List (List (List Nd)))(c:Nat):Prop:=∃a∈b,∃d∈a,∃e∈d,Sq e c
structure gy(w:World)(sb:Nat)(mp:Option Nat)(es:List Tj)(T:List (List (List Nd)))(tds:List Nd)(pp:List (List ej)):Prop where
 good:∀L∈T,∀nds∈L,∀x∈nds,uq w x/\∀k,Sq x k->¬Bj sb mp es k
 tl:T.length=tds.length
 pl:pp.length=tds.length
 rep:∀(i:Nat) (L:List (List Nd)) (p:List ej) (nd:Nd),T[i]? =some L->pp[i]? =some p->tds[i]? =some nd->yz (Rj p) L/\(∃ℓ,L.length=ℓ+1/\L[ℓ]? =some [nd])/\mG p
theorem gy.lt{c:World}{n:Nat}{k:Option Nat}{e:List Tj}{b:List (List (List Nd))}{o:List Nd}{m:List (List ej)}(f:gy c n k e b o m):∀a,QX b a->a<c.heap.size:=fun a ⟨d,g,l,i,p,j,h⟩=>(f.good d g l i p j).1.lt a h
theorem gy.frame{p j:World}{S:Nat->Prop}{n:Nat}{l:Option Nat}{k:List Tj}{d:List (List (List Nd))}{o:List Nd}{m:List (List ej)}(a:gy p n l k d o m)(r:bj S p j)(q:∀b,QX d b->¬S b):gy j n l k d o m:=
 ⟨fun c e h f i g=>⟨(a.good c e h f i g).1.frame r (fun b s=>q b ⟨c,e,h,f,i,g,s⟩),(a.good c e h f i g).2⟩,a.tl,a.pl,a.rep⟩
theorem gy.next{n q:World}{o:Nat->Prop}{c:Nat}{m s:Option Nat}{l r:List Tj}{p:List (List (List Nd))}{u:List Nd}{t:List (List ej)}(b:gy n c m l p u t)(x:bj o n q)(w:∀a,o a->Bj c m l a)(v:∀a,Bj c s r a->a<n.heap.size->Bj c m l a):gy q c s r p u t:=
 ⟨fun d e i g j h=>⟨(b.good d e i g j h).1.frame x (fun a f k=>(b.good d e i g j h).2 a f (w a k)),fun a f k=>(b.good d e i g j h).2 a f (v a k ((b.good d e i g j h).1.lt a f))⟩,b.tl,b.pl,b.rep⟩
theorem gy.push{t:World}{r u:Nat}{n:Option Nat}{k:List Tj}{b:List (List (List Nd))}{s:List Nd}{p:List (List ej)}{e:List (List Nd)}{y:Nd}{o:List ej}(a:gy t r n k b s p)(D:∀i∈e,∀h∈i,uq t h/\∀x,Sq h x->¬Bj r n k x)(z:yz (Rj o) e)(A:e.length=u+1)(B:e[u]? =some [y])(C:mG o):
  gy t r n k (b++[e]) (s++[y]) (p++[o]):=by
 refine⟨fun j d i v h w=>?_,by simp[a.tl],by simp[a.pl],fun m j q F c f g=>?_⟩
 .rcases fN.1 d with d|d
  .exact a.good j d i v h w
  .simp only[eN]at d;subst d;exact D i v h w
 .by_cases l:m<b.length
  .rw[DN l]at c;rw[DN (by rw[a.pl,<-a.tl];exact l)]at f;rw[DN (by rw[<-a.tl];exact l)]at g;exact a.rep m j q F c f g
  .have E:m=b.length:=by
    have:=(kN.1 c).1;simp at this;omega
   subst E;have G:=a.tl;have H:=a.pl;rw[MN (TM _),Aaj]at c;rw[MN (by omega),show b.length - p.length=0 by omega]at f;rw[MN (by omega),show b.length - s.length=0 by omega]at g;simp at c f g;subst c f g;exact⟨z,⟨u,A,B⟩,C⟩
def Fw:Nat->List (List UInt8)->List Value
 |0,_=>[]
 |a+1,b=>Fw a b++Fx a (b.getD a []) (a+1) (Uj 42 (b.take (a+1)))
def iy(a:List (List UInt8)):List Value:=Fw a.length a
theorem XQ:∀(a:Nat) (b c:List (List UInt8)),a<=b.length->Fw a (b++c)=Fw a b
 |0,_,_,_=>rfl
 |a+1,b,c,e=>by
  unfold Fw;rw[XQ a b c (by omega),fbj e];have d:(b++c).getD a []=b.getD a []:=by
   simp only[iaj];rw[DN (by omega)]
  rw[d]
theorem OU(a:List (List UInt8))(b:List UInt8):iy (a++[b])=iy a++Fx a.length b (a.length+1) (Uj 42 (a++[b])):=by
 unfold iy;rw[XM,VN,Fw,XQ _ _ _ (TM _),aaj (by simp)];have c:(a++[b]).getD a.length []=b:=by simp
 rw[c]
end
section
attribute [local go_sem↓] Go.wp_at_zero Go.wp_at_succ
structure RX(w W:World)(sb base rb db:Nat)(now past roots:dj)(nowL:List ej)(pastL:List (dj×List ej))(rootsL:List (List UInt8))(d:List UInt8):Prop where
 ref:Yj W sb base now past roots nowL pastL rootsL
 res:aj W rb 103 Mq
 dig:aj W db 36 (d.map fj)
theorem bj.into{S g:Nat->Prop}{c h i:World}(a:bj S c h)(b:bj g h i)(k:∀f,f<c.heap.size->g f->S f):bj S c i:=
 ⟨b.os.trans a.os,b.tape.trans a.tape,b.output.trans a.output,WM a.size b.size,fun e d j=>(b.block e (qN d a.size) (fun l=>j (k e d l))).trans (a.block e d j)⟩
theorem Yj.apart{d f:World}{j n:Nat}{s u w:dj}{t:List ej}{v:List (dj×List ej)}{x:List (List UInt8)}(a:Yj d j n s u w t v x){g c:Nat}{y:List Value}(G:aj d g c y)(p:bj (fun r=>r=g) d f)
  (D:g≠j)(o:84≠c)(B:78≠c)(C:36≠c):Yj f j n s u w t v x:=by
 have e:∀{h b k i:Nat} {l:Value} {m:List Value},d.ownsRow h b k l i m->b≠c->f.ownsRow h b k l i m:=fun{h b k i l m} q A=>
  ij q p (fun r E z=>xj q G A (by rw[E,z]))
 exact⟨aj.of_block a.row (p.block _ (aj.lt a.row) (fun b=>D b.symm)),e a.hnow o,e a.hpast B,fun H F=>e (a.hpok H F) o,e a.hroots C,a.h8⟩
def CV(a:Nat)(j k l m n o p q b c d e f g h i:UInt8):List Value:=[(.int .i64 a),(.int .u8 j.toNat),(.int .u8 k.toNat),(.int .u8 l.toNat),(.int .u8 m.toNat),(.int .u8 n.toNat),(.int .u8 o.toNat),(.int .u8 p.toNat),(.int .u8 q.toNat),(.int .i64 (IntKind.i64.wrap ((a:Int)+1))),(.int .u8 b.toNat),(.int .u8 c.toNat),(.int .u8 d.toNat),(.int .u8 e.toNat),(.int .u8 f.toNat),(.int .u8 g.toNat),(.int .u8 h.toNat),(.int .u8 i.toNat)]
theorem TY{c:Nat}{l m n o p q r s d e f g h i j k:UInt8}:∀b∈CV c l m n o p q r s d e f g h i j k,b.oneCell'=true:=by
 intro b a;simp only[CV,IN,jaj,or_false]at a;rcases a with rfl|rfl|rfl|rfl|rfl|rfl|rfl|rfl|rfl|rfl|rfl|rfl|rfl|rfl|rfl|rfl|rfl|rfl<;>rfl
theorem FZ{o:Array Oper}{d:Oper}{b:Act}{g:World}{k:Act->World->Prop}{q:Exit->Act->World->Prop}{p:Prop}(t:d.guard=none)(e:TypeId)(i j:Operand)(v:d.op=.store e i j)
  (c:Nat)(x:b.eval i=.pointer (some ⟨c,0,none⟩))(a:List Value)(y:b.eval j=.agg a.toArray){n:List Value}(l:aj g c e n)(m:n.length=a.length)(u:(Tryz.prog.info? e).map (·.size)=some a.length)(s:∀z∈a,z.oneCell'=true)
  (r:∀h,aj h c e a->bj (fun f=>f=c) g h->k (b.put d.dst undef) h):if Region.wanted d (yielded o b.tmps)=true then Oper.wp Tryz.prog d b g k q else p:=by
 have w:Region.wanted d (yielded o b.tmps)=true:=by simp[Region.wanted,t]
 rw[if_pos w];refine wp_store_mid e i j v c 0 a.toArray x y (by simpa using l.there a.length m.symm) (by simpa using u) (all_oneCell_toArray s) ?_;exact r _ (l.setAll _ m.symm) (bj.setCells (S:=fun f=>f=c) rfl _ _ _ (bj.refl _ _))
theorem aj.cellK{e:World}{b i:Nat}{c:List Value}(f:aj e b i c)(a:Nat)(d:Value)(h:c[a]? =some d):e.cell? ⟨b,a,none⟩=some d:=by
 obtain⟨g,rfl⟩:=kN.1 h;exact aj.cell f a g
theorem UY(t C:Nat)(c x f:dj)(y:List ej)(I:List (dj×List ej))(z:List (List UInt8))(e:World)(D:Yj e t C c x f y I z)(e0:z.length<40)(e4:I.length<40)(e2:y.length<=60)(ck:∀cI∈y,Dq cI)(e1:C<=e.heap.size):
  CP 45 #[.pointer (some ⟨t,0,none⟩)] e fun u cD=>u=.returned (.tuple #[.agg (Fx z.length (Sz y) (z.length+1) (Uj 42 (z++[Sz y]))).toArray,.int .i64 0])/\
   ∃cA cB,Yj cD t C c cA cB y (I++[(c,y)]) (z++[Sz y])/\bj (fun b=>b=t\/x.val.ownBlock=some b\/f.val.ownBlock=some b) e cD/\
    (∀b,cA.val.ownBlock=some b->b<e.heap.size->x.val.ownBlock=some b)/\(∀b,cB.val.ownBlock=some b->b<e.heap.size->f.val.ownBlock=some b):=by
 have e7:=aj.lt D.row;have d4:e.cell? ⟨t,0,none⟩=some (.slice c.a c.n c.cap):=aj.cell D.row 0 (by simp);have d5:e.cell? ⟨t,2,none⟩=some (.slice f.a f.n f.cap):=aj.cell D.row 2 (by simp);have aC:f.n=z.length:=(jj.ofOwn D.hroots).2;have cT:Hd (f.n=z.length):=aC;have e5:((f.n:Int)==40)=false:=by rw[aC];simp;omega
 have e6:(f.n:Int)<=40:=by rw[aC];omega
 have d1:Hd (IntKind.i64.wrap ((f.n:Int)+1)=(f.n:Int)+1):=by
  unfold Hd;simp only[qaj];omega
 clear aC;have b4:Below e.heap.size e (e.alloc (.cells #[.int .i64 0,.int .u8 0,.int .u8 0,.int .u8 0,.int .u8 0,.int .u8 0,.int .u8 0,.int .u8 0,.int .u8 0,.int .i64 0,.int .u8 0,.int .u8 0,.int .u8 0,.int .u8 0,.int .u8 0,.int .u8 0,.int .u8 0,.int .u8 0] 103)):=tO;have ct:Aq (e.alloc (.cells #[.int .i64 0,.int .u8 0,.int .u8 0,.int .u8 0,.int .u8 0,.int .u8 0,.int .u8 0,.int .u8 0,.int .u8 0,.int .i64 0,.int .u8 0,.int .u8 0,.int .u8 0,.int .u8 0,.int .u8 0,.int .u8 0,.int .u8 0,.int .u8 0] 103)) c.a y:=jj.below_all (jj.ofOwn D.hnow).1 b4;have bA:Hd (Calls _ _ _ _ _):=SQ c y _ (jj.ofOwn D.hnow).2 (by omega) ck ct;obtain⟨am,au⟩:∃am,am=Sz y:=⟨_,rfl⟩;rw[<-au];have ce:am.length=8:=by rw[au];rfl
 obtain⟨g,h,j,l,m,n,o,q,rfl⟩:=uj am ce;have b0:Hd (By (Gj (dq y) (Wz y))=.agg #[.int .u8 g.toNat,.int .u8 h.toNat,.int .u8 j.toNat,.int .u8 l.toNat,.int .u8 m.toNat,.int .u8 n.toNat,.int .u8 o.toNat,.int .u8 q.toNat]):=by
  unfold Hd;rw[kx,show Aj (Gj (dq y) (Wz y))=Sz y from rfl,<-au];rfl
 have d0:Hd ((Uj 42 (z++[[g,h,j,l,m,n,o,q]])).length=8):=Wj 41 _;obtain⟨aE,bg⟩:∃aE,aE=Uj 42 (z++[[g,h,j,l,m,n,o,q]]):=⟨_,rfl⟩;rw[<-bg];have bE:Hd (aE=Uj 42 (z++[[g,h,j,l,m,n,o,q]])):=bg;clear au ce bg;go_enter Tryz.func45,Tryz.ntmps45;go_wp2_with fail;refine bA.o.mono ?_;rintro u Q ⟨a6,rfl,dt,cj,cf,ch,b8⟩;obtain⟨a3,cC,P,S,rest,dd,e3,ax,dh,di,dg,cm⟩:=TQ ch ck (by omega);rw[dh,di]at b0;have b5:Below e.heap.size e Q:=b4.trans (b8.mono (by simp));have an:∀bh:Obj,Below Q.heap.size Q (Q.alloc bh):=fun bh=>(VM _ _).alloc (TM _) bh;have bb:px Q (e.alloc (.cells #[.int .i64 0,.int .u8 0,.int .u8 0,.int .u8 0,.int .u8 0,.int .u8 0,.int .u8 0,.int .u8 0,.int .u8 0,.int .i64 0,.int .u8 0,.int .u8 0,.int .u8 0,.int .u8 0,.int .u8 0,.int .u8 0,.int .u8 0,.int .u8 0] 103)).heap.size a3 (cC,(P,S)::rest):=by
  have c7:=cf a3 (by omega);rw[UM (by omega)]at ax;rw[lN ax]at c7;exact c7
 have bB:Hd (Calls _ _ _ _ _):=ZZ a6 dt a3 cC P S rest _ (Q.alloc (.cells #[.slice a6.a a6.n a6.cap] 146)) (lj cj (an _)) dd (by omega) ax (bb.below (an _));have bd:jz Q (e.alloc (.cells #[.int .i64 0,.int .u8 0,.int .u8 0,.int .u8 0,.int .u8 0,.int .u8 0,.int .u8 0,.int .u8 0,.int .u8 0,.int .i64 0,.int .u8 0,.int .u8 0,.int .u8 0,.int .u8 0,.int .u8 0,.int .u8 0,.int .u8 0,.int .u8 0] 103)).heap.size P.val S:=bb.2 (P,S) (by simp);clear bA ct ch ax;go_wp2_with fail;refine bB.o.mono ?_;rintro u bi ⟨rfl,ca⟩;have ao:Below Q.heap.size Q bi:=(an (.cells #[.slice a6.a a6.n a6.cap] 146)).trans (ca.mono (by simp));have cu:Aq bi P.a S:=jj.below_all (jj.ofOwn (s:=P) bd).1 ao;have bu:Hd (Calls _ _ _ _ _):=WZ a3 P.a P.n P.cap S bi (jj.ofOwn (s:=P) bd).2 dg (by omega) cm cu;clear bB;go_wp2_with fail;refine bu.o.mono ?_;rintro u cE ⟨d3,cv,d6,rfl,ci,cb⟩;obtain⟨cr,cg,_⟩:=ci.sl;have cR:Hd (cv=(Gj a3 S).length):=cg;have cP:Hd ((Gj a3 S).length<=maxLen):=by
  have:=ox a3 S.length S cm;unfold Hd maxLen;unfold Jq at this;unfold Gj;omega
 clear cg bu;go_wp2_with fail;refine(tz d3 cv d6 (Gj a3 S) cE cR.o cP.o cr).mono ?_;rintro u r ⟨rfl,cc⟩;rw[b0.o];have b6:Below Q.heap.size Q cE:=ao.trans (cb.mono ao.size);have ap:Below Q.heap.size Q r:=b6.trans (cc.mono b6.size);have b7:Below e.heap.size e r:=b5.trans (ap.mono b5.size);have ag:aj Q e.heap.size 103 Mq:=(aj.new e 103 Mq).below (by simp) b8;have a4:RX e (r.alloc (.cells #[.int .u8 g.toNat,.int .u8 h.toNat,.int .u8 j.toNat,.int .u8 l.toNat,.int .u8 m.toNat,.int .u8 n.toNat,.int .u8 o.toNat,.int .u8 q.toNat] 36)) t C e.heap.size r.heap.size c x f y I z [g,h,j,l,m,n,o,q]:=
  ⟨(D.below b7).below tO,((ag.below ag.lt ap)).alloc _,aj.new r 36 ([g,h,j,l,m,n,o,q].map fj)⟩
 have dm:e.heap.size<r.heap.size:=(ag.below ag.lt ap).lt;have aI:Hd (bj (fun b=>b=t\/x.val.ownBlock=some b\/f.val.ownBlock=some b) e (r.alloc (.cells #[.int .u8 g.toNat,.int .u8 h.toNat,.int .u8 j.toNat,.int .u8 l.toNat,.int .u8 m.toNat,.int .u8 n.toNat,.int .u8 o.toNat,.int .u8 q.toNat] 36))):=bj.of_below_all (b7.alloc (by omega) _);clear b8 ca cb cc b5 ao b6 ap b7 cj cf bb bd cu ag ci cr d4 d5 b0 b4 an;have bR:=a4.ref.row.cell 0 (by simp);have bS:=a4.ref.row.cell 1 (by simp);have da:=a4.ref.row.frozen 1;simp only[cN,gN,dj.val]at bR bS;have be:e.heap.size≠t:=by omega
 have cd:r.heap.size≠t:=by omega
 have cp:∀b,f.val.ownBlock=some b->b<e.heap.size:=fun b F=>(D.hroots.lt b F).2;have bC:Hd (∀b,f.val.ownBlock=some b->b<e.heap.size):=cp;have cl:∀b,x.val.ownBlock=some b->b<e.heap.size:=fun b F=>(D.hpast.lt b F).2;have dB:Hd (∀b,x.val.ownBlock=some b->b<e.heap.size):=cl;clear cp cl D;have ds:r.heap.size<(r.alloc (.cells #[.int .u8 g.toNat,.int .u8 h.toNat,.int .u8 j.toNat,.int .u8 l.toNat,.int .u8 m.toNat,.int .u8 n.toNat,.int .u8 o.toNat,.int .u8 q.toNat] 36)).heap.size:=by simp
 go_upto_region 6 with fail;generalize r.alloc (.cells #[.int .u8 g.toNat,.int .u8 h.toNat,.int .u8 j.toNat,.int .u8 l.toNat,.int .u8 m.toNat,.int .u8 n.toNat,.int .u8 o.toNat,.int .u8 q.toNat] 36)=E at*;have a2:Yj ((E.alloc (.cells #[.slice c.a c.n c.cap] 78)).drew) t C c x f y I z:=(a4.ref.below tO).drew;have aA:aj ((E.alloc (.cells #[.slice c.a c.n c.cap] 78)).drew) e.heap.size 103 Mq:=aj.alloc (w:=E) a4.res _;have av:aj ((E.alloc (.cells #[.slice c.a c.n c.cap] 78)).drew) r.heap.size 36 ([g,h,j,l,m,n,o,q].map fj):=aj.alloc (w:=E) a4.dig _;have d8:(E.alloc (.cells #[.slice c.a c.n c.cap] 78)).cell? ⟨t,1,none⟩=some (.slice x.a x.n x.cap):=aj.cell a2.row 1 (Nat.lt_succ_of_lt (Nat.lt_succ_self 1));have d7:(E.alloc (.cells #[.slice c.a c.n c.cap] 78)).cell? ⟨t,0,none⟩=some (.slice c.a c.n c.cap):=aj.cell a2.row 0 (Nat.succ_pos 2);have a9:Hd (((E.alloc (.cells #[.slice c.a c.n c.cap] 78)).drew).ownsRow C 78 1 (.slice x.a x.n x.cap) I.length (I.map (fun P=>P.1.val))):=a2.hpast;have aa:Hd (jj ((E.alloc (.cells #[.slice c.a c.n c.cap] 78)).drew) (some ⟨E.heap.size,0,none⟩) [.slice c.a c.n c.cap]):=jj.alloc_new E _ _;have bk:Hd (∀ah∈[Value.slice c.a c.n c.cap],ah.oneCell'=true):=fun ah aD=>by simp at aD;subst aD;rfl
 have bm:Hd (I.length+1<=maxLen):=by unfold Hd maxLen;omega
 have br:Hd ((I.length+1)*24<=140737488355328):=by unfold Hd;omega
 have dn:=aI.o.size;have bo:Hd (C<=((E.alloc (.cells #[.slice c.a c.n c.cap] 78)).drew).heap.size):=by unfold Hd;show C<=(E.alloc (.cells #[.slice c.a c.n c.cap] 78)).heap.size;simp;omega
 have bO:Hd (e.heap.size<=((E.alloc (.cells #[.slice c.a c.n c.cap] 78)).drew).heap.size):=by unfold Hd;show e.heap.size<=(E.alloc (.cells #[.slice c.a c.n c.cap] 78)).heap.size;simp;omega
 have bv:Hd (bj (fun b=>b=t\/x.val.ownBlock=some b\/f.val.ownBlock=some b) e ((E.alloc (.cells #[.slice c.a c.n c.cap] 78)).drew)):=(aI.o.alloc _).drew
 go_cut [] (fun al=>∃(J:Option Addr) (M K:Nat),Hd (RX e al t C e.heap.size r.heap.size c ⟨J,M,K⟩ f y (I++[(c,y)]) z [g,h,j,l,m,n,o,q])/\Hd (bj (fun b=>b=t\/x.val.ownBlock=some b\/f.val.ownBlock=some b) e al)/\Hd (∀b,(Value.slice J M K).ownBlock=some b->b<e.heap.size->x.val.ownBlock=some b))
 case first=>
  go_region_law
   ((refine cq (by rfl) (.tmp 28) (.tmp 33) 89 (by rfl) C 78 _ 1 24 Tryz.underlying89 Tryz.infoItems rfl (by decide) (.slice x.a x.n x.cap) I.length (I.map (fun P=>P.1.val)) (by rfl) a9.o ⟨E.heap.size,0,none⟩ 1 1 [.slice c.a c.n c.cap] (by rfl) rfl aa.o bk.o bm.o br.o bo.o ?_;intro J M K ai de ae db;have cn:Vv ai t c.val x.val f.val:=aj.of_block a2.row (ae.block _ (aj.lt a2.row) (fun u=>xj a9.o a2.row (by decide) u));have e9:ai.cell? ⟨t,1,none⟩=some (.slice x.a x.n x.cap):=aj.cell cn 1 (Nat.lt_succ_of_lt (Nat.lt_succ_self 1));have eb:ai.frozen? ⟨t,1,none⟩=false:=aj.frozen cn 1))
  all_goals
   have H:RX e (ai.setCell ⟨t,1,none⟩ (.slice J M K)) t C e.heap.size r.heap.size c ⟨J,M,K⟩ f y (I++[(c,y)]) z [g,h,j,l,m,n,o,q]:=
    ⟨Yj.pushPast (past':=⟨J,M,K⟩) a2 de ae,(aA.of_block (ae.block _ aA.lt (fun u=>xj a9.o aA (by decide) u))).other (by exact be) _,(av.of_block (ae.block _ av.lt (fun u=>xj a9.o av (by decide) u))).other (by exact cd) _⟩
   have a8:Hd (bj (fun b=>b=t\/x.val.ownBlock=some b\/f.val.ownBlock=some b) e (ai.setCell ⟨t,1,none⟩ (.slice J M K))):=(bv.o.trans (ae.mono (fun b _ F=>RM (SM F)))).setCell (p:=⟨t,1,none⟩) (SM rfl) _;have aR:Hd (∀b,(Value.slice J M K).ownBlock=some b->b<e.heap.size->x.val.ownBlock=some b):=fun b F bc=>by
    rcases db with u|u
    .rw[u]at F;exact F
    .rw[u]at F;exact absurd bc (by have:=lN F;have:=bO.o;omega)
   go_wp2_with fail;go_meet;exact⟨J,M,K,H,a8,aR⟩
 case rest=>
  obtain⟨J,M,K,aa,a8,aR⟩:=hcut;have H:=aa.o;have dp:r.heap.size<wc.heap.size:=H.dig.lt
  try clear aa
  try clear bO
  try clear a9
  try clear aa
  try clear bk
  try clear bm
  try clear br
  try clear bo
  try clear bv
  try clear aI
  try clear a2
  try clear aA
  try clear av
  try clear a4
  try clear dn
  try clear ds
  try clear bR
  try clear bS
  try clear da
  try clear d8
  try clear d7
  generalize wc=A at*;have b3:A.cell? ⟨t,2,none⟩=some (.slice f.a f.n f.cap):=aj.cell H.ref.row 2 (by simp);have bT:A.cell? ⟨r.heap.size,0,none⟩=some (.int .u8 g.toNat):=aj.cell H.dig 0 (by simp);have c0:A.cell? ⟨r.heap.size,1,none⟩=some (.int .u8 h.toNat):=aj.cell H.dig 1 (by simp);have c1:A.cell? ⟨r.heap.size,2,none⟩=some (.int .u8 j.toNat):=aj.cell H.dig 2 (by simp);have c2:A.cell? ⟨r.heap.size,3,none⟩=some (.int .u8 l.toNat):=aj.cell H.dig 3 (by simp);have c3:A.cell? ⟨r.heap.size,4,none⟩=some (.int .u8 m.toNat):=aj.cell H.dig 4 (by simp);have c4:A.cell? ⟨r.heap.size,5,none⟩=some (.int .u8 n.toNat):=aj.cell H.dig 5 (by simp);have c5:A.cell? ⟨r.heap.size,6,none⟩=some (.int .u8 o.toNat):=aj.cell H.dig 6 (by simp);have c6:A.cell? ⟨r.heap.size,7,none⟩=some (.int .u8 q.toNat):=aj.cell H.dig 7 (by simp);have a5:Yj ((A.alloc (.cells #[.int .u8 g.toNat,.int .u8 h.toNat,.int .u8 j.toNat,.int .u8 l.toNat,.int .u8 m.toNat,.int .u8 n.toNat,.int .u8 o.toNat,.int .u8 q.toNat] 36)).drew) t C c ⟨J,M,K⟩ f y (I++[(c,y)]) z:=(H.ref.below tO).drew;have bf:aj ((A.alloc (.cells #[.int .u8 g.toNat,.int .u8 h.toNat,.int .u8 j.toNat,.int .u8 l.toNat,.int .u8 m.toNat,.int .u8 n.toNat,.int .u8 o.toNat,.int .u8 q.toNat] 36)).drew) e.heap.size 103 Mq:=aj.alloc (w:=A) H.res _;have b9:aj ((A.alloc (.cells #[.int .u8 g.toNat,.int .u8 h.toNat,.int .u8 j.toNat,.int .u8 l.toNat,.int .u8 m.toNat,.int .u8 n.toNat,.int .u8 o.toNat,.int .u8 q.toNat] 36)).drew) r.heap.size 36 ([g,h,j,l,m,n,o,q].map fj):=aj.alloc (w:=A) H.dig _;have d9:(A.alloc (.cells #[.int .u8 g.toNat,.int .u8 h.toNat,.int .u8 j.toNat,.int .u8 l.toNat,.int .u8 m.toNat,.int .u8 n.toNat,.int .u8 o.toNat,.int .u8 q.toNat] 36)).cell? ⟨t,2,none⟩=some (.slice f.a f.n f.cap):=aj.cell a5.row 2 (by simp);have aP:Hd (((A.alloc (.cells #[.int .u8 g.toNat,.int .u8 h.toNat,.int .u8 j.toNat,.int .u8 l.toNat,.int .u8 m.toNat,.int .u8 n.toNat,.int .u8 o.toNat,.int .u8 q.toNat] 36)).drew).ownsRow C 36 8 (.slice f.a f.n f.cap) z.length (qj z)):=a5.hroots
  have ab:Hd (jj ((A.alloc (.cells #[.int .u8 g.toNat,.int .u8 h.toNat,.int .u8 j.toNat,.int .u8 l.toNat,.int .u8 m.toNat,.int .u8 n.toNat,.int .u8 o.toNat,.int .u8 q.toNat] 36)).drew) (some ⟨A.heap.size,0,none⟩) ([g,h,j,l,m,n,o,q].map fj)):=jj.alloc_new A _ _;have bl:Hd (∀ah∈([g,h,j,l,m,n,o,q].map fj),ah.oneCell'=true):=fun ah aD=>by obtain⟨ed,_,rfl⟩:=vN.1 aD;rfl
  have bn:Hd (z.length+1<=maxLen):=by unfold Hd maxLen;omega
  have bs:Hd ((z.length+1)*8<=140737488355328):=by unfold Hd;omega
  have dr:=a8.o.size;have bp:Hd (C<=((A.alloc (.cells #[.int .u8 g.toNat,.int .u8 h.toNat,.int .u8 j.toNat,.int .u8 l.toNat,.int .u8 m.toNat,.int .u8 n.toNat,.int .u8 o.toNat,.int .u8 q.toNat] 36)).drew).heap.size):=by unfold Hd;show C<=(A.alloc (.cells #[.int .u8 g.toNat,.int .u8 h.toNat,.int .u8 j.toNat,.int .u8 l.toNat,.int .u8 m.toNat,.int .u8 n.toNat,.int .u8 o.toNat,.int .u8 q.toNat] 36)).heap.size;simp;omega
  have bP:Hd (e.heap.size<=((A.alloc (.cells #[.int .u8 g.toNat,.int .u8 h.toNat,.int .u8 j.toNat,.int .u8 l.toNat,.int .u8 m.toNat,.int .u8 n.toNat,.int .u8 o.toNat,.int .u8 q.toNat] 36)).drew).heap.size):=by unfold Hd;show e.heap.size<=(A.alloc (.cells #[.int .u8 g.toNat,.int .u8 h.toNat,.int .u8 j.toNat,.int .u8 l.toNat,.int .u8 m.toNat,.int .u8 n.toNat,.int .u8 o.toNat,.int .u8 q.toNat] 36)).heap.size;simp;omega
  have bw:Hd (bj (fun b=>b=t\/x.val.ownBlock=some b\/f.val.ownBlock=some b) e ((A.alloc (.cells #[.int .u8 g.toNat,.int .u8 h.toNat,.int .u8 j.toNat,.int .u8 l.toNat,.int .u8 m.toNat,.int .u8 n.toNat,.int .u8 o.toNat,.int .u8 q.toNat] 36)).drew)):=(a8.o.alloc _).drew;go_upto_region 7 with fail
  go_cut [] (fun al=>∃(G:Option Addr) (N L:Nat),Hd (RX e al t C e.heap.size r.heap.size c ⟨J,M,K⟩ ⟨G,N,L⟩ y (I++[(c,y)]) (z++[[g,h,j,l,m,n,o,q]]) [g,h,j,l,m,n,o,q])/\Hd (bj (fun b=>b=t\/x.val.ownBlock=some b\/f.val.ownBlock=some b) e al)/\Hd (∀b,(Value.slice G N L).ownBlock=some b->b<e.heap.size->f.val.ownBlock=some b))
  case first=>
   go_region_law
    ((refine cq (by rfl) (.tmp 41) (.tmp 43) 41 (by rfl) C 36 _ 8 8 Tryz.underlying41 Tryz.infoDigs rfl (by decide) (.slice f.a f.n f.cap) z.length (qj z) (by rfl) aP.o ⟨A.heap.size,0,none⟩ 1 1 ([g,h,j,l,m,n,o,q].map fj) (by rfl) rfl ab.o bl.o bn.o bs.o bp.o ?_;intro G N L ak df af dc;have co:Vv ak t c.val (dj.val ⟨J,M,K⟩) f.val:=aj.of_block a5.row (af.block _ (aj.lt a5.row) (fun u=>xj aP.o a5.row (by decide) u));have ea:ak.cell? ⟨t,2,none⟩=some (.slice f.a f.n f.cap):=aj.cell co 2 (Nat.lt_succ_self 2);have ec:ak.frozen? ⟨t,2,none⟩=false:=aj.frozen co 2))
   all_goals
    have B:RX e (ak.setCell ⟨t,2,none⟩ (.slice G N L)) t C e.heap.size r.heap.size c ⟨J,M,K⟩ ⟨G,N,L⟩ y (I++[(c,y)]) (z++[[g,h,j,l,m,n,o,q]]) [g,h,j,l,m,n,o,q]:=
     ⟨Yj.pushRoot (roots':=⟨G,N,L⟩) (d:=[g,h,j,l,m,n,o,q]) a5 rfl df af,(bf.of_block (af.block _ bf.lt (fun u=>absurd (bC.o _ u) (Nat.lt_irrefl _)))).other (by exact be) _,(b9.of_block (af.block _ b9.lt (fun u=>absurd (bC.o _ u) (Nat.lt_asymm dm)))).other (by exact cd) _⟩
    have aO:Hd (bj (fun b=>b=t\/x.val.ownBlock=some b\/f.val.ownBlock=some b) e (ak.setCell ⟨t,2,none⟩ (.slice G N L))):=(bw.o.trans (af.mono (fun b _ F=>RM (RM F)))).setCell (p:=⟨t,2,none⟩) (SM rfl) _;have aS:Hd (∀b,(Value.slice G N L).ownBlock=some b->b<e.heap.size->f.val.ownBlock=some b):=fun b F bc=>by
     rcases dc with u|u
     .rw[u]at F;exact F
     .rw[u]at F;exact absurd bc (by have:=lN F;have:=bP.o;omega)
    go_wp2_with fail;go_meet;exact⟨G,N,L,B,aO,aS⟩
  case rest=>
   obtain⟨G,N,L,ab,aO,aS⟩:=hcut;have B:=ab.o;have e8:r.heap.size<wc.heap.size:=B.dig.lt
   try clear ab
   try clear bP
   try clear aP
   try clear ab
   try clear bl
   try clear bn
   try clear bs
   try clear bp
   try clear bw
   try clear a8
   try clear a5
   try clear bf
   try clear b9
   try clear H
   try clear dp
   try clear dr
   try clear b3
   try clear d9
   try clear bT
   try clear c0
   try clear c1
   try clear c2
   try clear c3
   try clear c4
   try clear c5
   try clear c6
   generalize wc=O at*;have b3:O.cell? ⟨t,2,none⟩=some (.slice G N L):=aj.cell B.ref.row 2 (by simp);have bT:O.cell? ⟨r.heap.size,0,none⟩=some (.int .u8 g.toNat):=aj.cell B.dig 0 (by simp);have c0:O.cell? ⟨r.heap.size,1,none⟩=some (.int .u8 h.toNat):=aj.cell B.dig 1 (by simp);have c1:O.cell? ⟨r.heap.size,2,none⟩=some (.int .u8 j.toNat):=aj.cell B.dig 2 (by simp);have c2:O.cell? ⟨r.heap.size,3,none⟩=some (.int .u8 l.toNat):=aj.cell B.dig 3 (by simp);have c3:O.cell? ⟨r.heap.size,4,none⟩=some (.int .u8 m.toNat):=aj.cell B.dig 4 (by simp);have c4:O.cell? ⟨r.heap.size,5,none⟩=some (.int .u8 n.toNat):=aj.cell B.dig 5 (by simp);have c5:O.cell? ⟨r.heap.size,6,none⟩=some (.int .u8 o.toNat):=aj.cell B.dig 6 (by simp);have c6:O.cell? ⟨r.heap.size,7,none⟩=some (.int .u8 q.toNat):=aj.cell B.dig 7 (by simp);have dC:=b3;have ar:=vj (a:=G) (n':=N) (cap:=L) B.ref.hroots;have bD:Hd (tq O.drew G (z++[[g,h,j,l,m,n,o,q]])):=⟨(jj.ofOwn (s:=⟨G,N,L⟩) B.ref.hroots).1,B.ref.h8⟩;have cS:Hd (N=(z++[[g,h,j,l,m,n,o,q]]).length):=ar.1;have aT:Hd (Calls _ _ _ _ _):=Kk 42 (z++[[g,h,j,l,m,n,o,q]]) G L O.drew (by simp;omega) ar.2.1 (by have:=ar.2.2.1;unfold maxLen at this;omega) bD.o;rw[<-cS.o,<-bE.o]at aT;obtain⟨T,U,V,W,X,Y,Z,a0,rfl⟩:=uj aE (bE.o▸d0.o);have bI:Hd (dV [T,U,V,W,X,Y,Z,a0]=.agg #[.int .u8 T.toNat,.int .u8 U.toNat,.int .u8 V.toNat,.int .u8 W.toNat,.int .u8 X.toNat,.int .u8 Y.toNat,.int .u8 Z.toNat,.int .u8 a0.toNat]):=rfl;clear ar bD;go_wp2
   go_region_with (first
    |(go_at_call 87;refine aT.o.mono ?_;rintro u R ⟨rfl,a7⟩;rw[bI.o];have aB:aj R e.heap.size 103 Mq:=aj.below (w:=O.drew) B.res B.res.lt a7;rename_i b1 ac;refine ac _ _ ?_;clear ac b1;refine wpAny_take (i:=9) (v:=.agg #[(.int .i64 (IntKind.i64.wrap ((f.n:Int)+1))),(.int .u8 T.toNat),(.int .u8 U.toNat),(.int .u8 V.toNat),(.int .u8 W.toNat),(.int .u8 X.toNat),(.int .u8 Y.toNat),(.int .u8 Z.toNat),(.int .u8 a0.toNat)]) rfl (by kernel_rfl) (by kernel_rfl) (by kernel_rfl) (fun _ _ _ D=>D) (SM ⟨by rfl,fun e=>by go_simp⟩) ?_;go_loud (refine wpAny_take (i:=10) (v:=.agg #[(.int .i64 (f.n:Int)),(.int .u8 g.toNat),(.int .u8 h.toNat),(.int .u8 j.toNat),(.int .u8 l.toNat),(.int .u8 m.toNat),(.int .u8 n.toNat),(.int .u8 o.toNat),(.int .u8 q.toNat),(.int .i64 (IntKind.i64.wrap ((f.n:Int)+1))),(.int .u8 T.toNat),(.int .u8 U.toNat),(.int .u8 V.toNat),(.int .u8 W.toNat),(.int .u8 X.toNat),(.int .u8 Y.toNat),(.int .u8 Z.toNat),(.int .u8 a0.toNat)]) rfl (by kernel_rfl) (by kernel_rfl) (by kernel_rfl) (fun _ _ _ D=>D) (SM ⟨by rfl,?_⟩) ?_);go_loud (focus (intro dA;go_simp;done));go_loud (refine wpAny_ready (rs:=[11]) (by kernel_rfl) (Iaj _ _) ?_;refine AllReady.cons rfl (fun b2 ad=>?_) AllReady.nil;refine FZ (by rfl) 103 (.tmp 2) (.tmp 57) (by rfl) e.heap.size (by rfl) (CV f.n g h j l m n o q T U V W X Y Z a0) (by rfl) aB rfl Tryz.sizeCommit TY ?_;intro du c9 ba;refine ad _ _ ?_;clear ad b2))
    |(go_at_call 87;refine aT.o.mono ?_;rintro u R ⟨rfl,a7⟩;rw[bI.o];have aB:aj R e.heap.size 103 Mq:=aj.below (w:=O.drew) B.res B.res.lt a7;rename_i b1 ac;refine ac _ _ ?_;clear ac b1;refine wpAny_take (i:=9) (v:=.agg #[(.int .i64 (IntKind.i64.wrap ((f.n:Int)+1))),(.int .u8 T.toNat),(.int .u8 U.toNat),(.int .u8 V.toNat),(.int .u8 W.toNat),(.int .u8 X.toNat),(.int .u8 Y.toNat),(.int .u8 Z.toNat),(.int .u8 a0.toNat)]) rfl (by kernel_rfl) (by kernel_rfl) (by kernel_rfl) (fun _ _ _ D=>D) (SM ⟨by rfl,fun e=>by go_simp⟩) ?_;have a1:aj R r.heap.size 36 ([g,h,j,l,m,n,o,q].map fj):=aj.below (w:=O.drew) B.dig B.dig.lt a7;refine wpAny_ready (rs:=[1]) ?_ (Iaj _ _) ?_;kernel_rfl;have dD:R.cell? ⟨r.heap.size,0,none⟩=some (.int .u8 g.toNat):=aj.cellK a1 0 _ rfl;have dE:R.cell? ⟨r.heap.size,1,none⟩=some (.int .u8 h.toNat):=aj.cellK a1 1 _ rfl;have dI:R.cell? ⟨r.heap.size,2,none⟩=some (.int .u8 j.toNat):=aj.cellK a1 2 _ rfl;have dO:R.cell? ⟨r.heap.size,3,none⟩=some (.int .u8 l.toNat):=aj.cellK a1 3 _ rfl;have dP:R.cell? ⟨r.heap.size,4,none⟩=some (.int .u8 m.toNat):=aj.cellK a1 4 _ rfl;have dR:R.cell? ⟨r.heap.size,5,none⟩=some (.int .u8 n.toNat):=aj.cellK a1 5 _ rfl;have dS:R.cell? ⟨r.heap.size,6,none⟩=some (.int .u8 o.toNat):=aj.cellK a1 6 _ rfl;have dT:R.cell? ⟨r.heap.size,7,none⟩=some (.int .u8 q.toNat):=aj.cellK a1 7 _ rfl;refine AllReady.cons rfl (fun d2 c8=>?_) AllReady.nil;go_simp;refine c8 _ _ ?_;clear c8 d2;(refine wpAny_take (i:=10) (v:=.agg #[(.int .i64 (f.n:Int)),(.int .u8 g.toNat),(.int .u8 h.toNat),(.int .u8 j.toNat),(.int .u8 l.toNat),(.int .u8 m.toNat),(.int .u8 n.toNat),(.int .u8 o.toNat),(.int .u8 q.toNat),(.int .i64 (IntKind.i64.wrap ((f.n:Int)+1))),(.int .u8 T.toNat),(.int .u8 U.toNat),(.int .u8 V.toNat),(.int .u8 W.toNat),(.int .u8 X.toNat),(.int .u8 Y.toNat),(.int .u8 Z.toNat),(.int .u8 a0.toNat)]) rfl (by kernel_rfl) (by kernel_rfl) (by kernel_rfl) (fun _ _ _ D=>D) (SM ⟨by rfl,?_⟩) ?_;focus (intro dA;go_simp;done));refine wpAny_ready (rs:=[11]) (by kernel_rfl) (Iaj _ _) ?_;refine AllReady.cons rfl (fun b2 ad=>?_) AllReady.nil;refine FZ (by rfl) 103 (.tmp 2) (.tmp 57) (by rfl) e.heap.size (by rfl) (CV f.n g h j l m n o q T U V W X Y Z a0) (by rfl) aB rfl Tryz.sizeCommit TY ?_;intro du c9 ba;refine ad _ _ ?_;clear ad b2))
   all_goals
    go_wp2;refine Lq (k:=2) (k2:=3) (cs:=CV f.n g h j l m n o q T U V W X Y Z a0) rfl rfl rfl c9 Tryz.underlying103 rfl Tryz.sizeCommit rfl ⟨?_,⟨J,M,K⟩,⟨G,N,L⟩,?_,?_,aR.o,aS.o⟩
    .unfold CV;rw[d1.o,<-cT.o];rfl
    .exact Yj.apart (B.ref.drew.below a7) aB ba be (by decide) (by decide) (by decide)
    .exact(aO.o.drew.trans (bj.of_below_all a7)).into ba (fun cI dl u=>absurd dl (by rw[u];exact Nat.lt_irrefl _))
end
end Go.Proofs.YtekegfbjbainhaaGreat
