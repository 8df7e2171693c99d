import Derived.Test.YtekegfbjbainhaaGreatKJoin38
import Derived.Deep.RegionLaw
import Derived.Deep.DrawnRows
import Derived.Deep.RegionHeld3
set_option maxRecDepth 100000
set_option maxHeartbeats 4000000
set_option linter.unusedVariables false
set_option linter.unusedSimpArgs false
namespace Go.Proofs.YtekegfbjbainhaaGreat
open Go.RowKit
section
attribute [local go_sem↓] Go.wp_at_zero Go.wp_at_succ
def zk(c:List (List UInt8))(b a:Int):List (List UInt8)×Int:=if a<1\/(c.length:Int)<a\/b<0\/a<=b then([],4)else(Iy 42 b.toNat (c.take a.toNat),0)
def Ak(c:List (List UInt8))(a b:Int):List (List UInt8)×Int:=if b<0\/(c.length:Int)<b\/a<0\/b<a then([],4)else if a=0 then([],0)else(yk 42 a.toNat (c.take b.toNat) true,0)
def Mj(b:World)(c:List (List UInt8)×Int)(e:Ending)(d:World):Prop:=∃a:dj,e=.returned (.tuple #[.slice a.a a.n a.cap,.int .i64 c.2])/\d.ownsRow b.heap.size 36 8 (.slice a.a a.n a.cap) c.1.length (qj c.1)/\Below b.heap.size b d
theorem Mj.nope(b:World)(a:Int):Mj b ([],a) (.returned (.tuple #[.slice none 0 0,.int .i64 a])) b:=⟨⟨none,0,0⟩,rfl,iN _ _ _ _,VM _ _⟩
theorem NK(d:List (List UInt8))(b c:Int):(∀a∈(zk d b c).1,a.length=8)/\(zk d b c).1.length<=42:=by
 unfold zk
 split
 .exact⟨fun a e=>(by cases e),by simp⟩
 .exact⟨UV _ _ _,Ty _ _ _⟩
theorem OK(e:List (List UInt8))(c d:Int):(∀a∈(Ak e c d).1,a.length=8)/\(Ak e c d).1.length<=42:=by
 unfold Ak
 split
 .exact⟨fun a b=>(by cases b),by simp⟩
 .split
  .exact⟨fun a b=>(by cases b),by simp⟩
  .exact⟨MK _ _ _ _,Jk _ _ _ _⟩
theorem LF(h b:Nat)(i:dj)(d a:Int)(c:World)(o:b<=40)(q:c.cell? ⟨h,2,none⟩=some (.slice i.a b i.cap))(l:a<1\/(b:Int)<a\/d<0\/a<=d):
  CP 51 #[.pointer (some ⟨h,0,none⟩),.int .i64 d,.int .i64 a] c (Mj c ([],4)):=by
 have p:(b:Int)<=40:=by omega
 by_cases e:a<1
 .go_enter Tryz.func51,Tryz.ntmps51;go_wp2;go_returns;exact Mj.nope c 4
 by_cases g:(b:Int)<a
 .have f:¬a<1:=e;go_enter Tryz.func51,Tryz.ntmps51;go_wp2;go_returns;exact Mj.nope c 4
 by_cases k:d<0
 .have f:¬a<1:=e;have j:¬(b:Int)<a:=g;go_enter Tryz.func51,Tryz.ntmps51;go_wp2;go_returns;exact Mj.nope c 4
 .have n:a<=d:=by omega
  have f:¬a<1:=e;have j:¬(b:Int)<a:=g;have m:¬d<0:=k;go_enter Tryz.func51,Tryz.ntmps51;go_wp2;go_returns;exact Mj.nope c 4
theorem NW(j d a:Nat)(c:dj)(b:List (List UInt8))(e:World)(w:b.length<=40)(A:b.length<=c.cap)(y:c.cap<=9223372036854775807)(n:e.cell? ⟨j,2,none⟩=some (.slice c.a b.length c.cap))(g:tq e c.a b)(C:1<=a)(l:a<=b.length)(B:d<a):
  CP 51 #[.pointer (some ⟨j,0,none⟩),.int .i64 d,.int .i64 a] e (Mj e (Iy 42 d (b.take a),0)):=by
 have f:Hd (Calls _ _ _ _ (zj e (Iy 42 d (b.take a)))):=uX 42 d (b.take a) c.a c.cap e (by rw[aN];omega) (by omega) (by rw[aN];omega) (by rw[aN];omega) (by omega) (g.take a (by omega)) (by rw[aN];omega);rw[aN,LN l]at f;generalize Iy 42 d (b.take a)=p at*;obtain⟨r,E,h⟩:=g.adr (by omega);rw[h]at f n;have x:(b.length:Int)<=40:=by omega
 have s:¬(a:Int)<1:=by omega
 have t:¬(b.length:Int)<a:=by omega
 have u:¬(d:Int)<0:=by omega
 have v:¬(a:Int)<=d:=by omega
 have D:(a:Int)<=c.cap:=by omega
 have z:(c.cap:Int)<=9223372036854775807:=by omega
 
 generalize b.length=q at*;clear g h;go_enter Tryz.func51,Tryz.ntmps51;go_wp2_with fail;refine f.o.mono ?_;rintro F G i;unfold zj at i;obtain⟨o,rfl,m,k⟩:=i;go_wp2;go_returns;exact⟨o,rfl,m,k⟩
theorem UJ(g:Nat)(r t b:dj)(q:List ej)(u:List (dj×List ej))(e:List (List UInt8))(d c:Int)(f:World)(h:Yj f g 0 r t b q u e)(l:e.length<=40):
  CP 51 #[.pointer (some ⟨g,0,none⟩),.int .i64 d,.int .i64 c] f (Mj f (zk e d c)):=by
 have m:=vj (a:=b.a) (n':=b.n) (cap:=b.cap) h.hroots;obtain⟨p,o⟩:=jj.ofOwn (s:=b) h.hroots;have n:f.cell? ⟨g,2,none⟩=some (.slice b.a e.length b.cap):=by
  have:f.cell? ⟨g,2,none⟩=some (.slice b.a b.n b.cap):=aj.cell h.row 2 (by simp);rw[o]at this;exact this
 unfold zk;by_cases j:c<1\/(e.length:Int)<c\/d<0\/c<=d
 .rw[if_pos j];exact LF g e.length b d c f l n j
 .rw[if_neg j];obtain⟨k,rfl⟩:∃k:Nat,c=k:=⟨c.toNat,by omega⟩;obtain⟨i,rfl⟩:∃i:Nat,d=i:=⟨d.toNat,by omega⟩;simp only[Jaj];exact NW g i k b e f l (by have:=m.2.1;omega) (by have:=m.2.2.1;unfold maxLen at this;omega) n ⟨p,h.h8⟩ (by omega) (by omega) (by omega)
theorem qH(h b:Nat)(i:dj)(d a:Int)(c:World)(o:b<=40)(q:c.cell? ⟨h,2,none⟩=some (.slice i.a b i.cap))(l:a<0\/(b:Int)<a\/d<0\/a<d):
  CP 55 #[.pointer (some ⟨h,0,none⟩),.int .i64 d,.int .i64 a] c (Mj c ([],4)):=by
 have p:(b:Int)<=40:=by omega
 by_cases e:a<0
 .go_enter Tryz.func55,Tryz.ntmps55;go_wp2;go_returns;exact Mj.nope c 4
 by_cases g:(b:Int)<a
 .have f:¬a<0:=e;go_enter Tryz.func55,Tryz.ntmps55;go_wp2;go_returns;exact Mj.nope c 4
 by_cases k:d<0
 .have f:¬a<0:=e;have j:¬(b:Int)<a:=g;go_enter Tryz.func55,Tryz.ntmps55;go_wp2;go_returns;exact Mj.nope c 4
 .have n:a<d:=by omega
  have f:¬a<0:=e;have j:¬(b:Int)<a:=g;have m:¬d<0:=k;go_enter Tryz.func55,Tryz.ntmps55;go_wp2;go_returns;exact Mj.nope c 4
theorem MF(j c a:Nat)(d:dj)(b:List (List UInt8))(e:World)(w:b.length<=40)(A:b.length<=d.cap)(y:d.cap<=9223372036854775807)(n:e.cell? ⟨j,2,none⟩=some (.slice d.a b.length d.cap))(g:tq e d.a b)(C:1<=c)(l:a<=b.length)(B:c<=a):
  CP 55 #[.pointer (some ⟨j,0,none⟩),.int .i64 c,.int .i64 a] e (Mj e (yk 42 c (b.take a) true,0)):=by
 have f:Hd (Calls _ _ _ _ (zj e (yk 42 c (b.take a) true))):=rZ 42 c (b.take a) true d.a d.cap e (by rw[aN];omega) (by omega) (by rw[aN];omega) (by rw[aN];omega) (by omega) (g.take a (by omega)) (by omega) (by rw[aN];omega);rw[aN,LN l]at f;generalize yk 42 c (b.take a) true=p at*;obtain⟨r,F,h⟩:=g.adr (by omega);rw[h]at f n;have x:(b.length:Int)<=40:=by omega
 have s:¬(a:Int)<0:=by omega
 have t:¬(b.length:Int)<a:=by omega
 have u:¬(c:Int)<0:=by omega
 have v:¬(a:Int)<c:=by omega
 have E:(a:Int)<=d.cap:=by omega
 have z:(d.cap:Int)<=9223372036854775807:=by omega
 have D:((c:Int)==0)=false:=by rw[tN];simp only[ne_eq,beq_iff_eq];omega
 generalize b.length=q at*;clear g h;go_enter Tryz.func55,Tryz.ntmps55;go_wp2_with fail;refine f.o.mono ?_;rintro G H i;unfold zj at i;obtain⟨o,rfl,m,k⟩:=i;go_wp2;go_returns;exact⟨o,rfl,m,k⟩
theorem OW(d a b:Nat)(e:dj)(c:World)(i:a<=40)(k:c.cell? ⟨d,2,none⟩=some (.slice e.a a e.cap))(f:b<=a):
  CP 55 #[.pointer (some ⟨d,0,none⟩),.int .i64 0,.int .i64 b] c (Mj c ([],0)):=by
 have j:(a:Int)<=40:=by omega
 have g:¬(b:Int)<0:=by omega
 have h:¬(a:Int)<b:=by omega
 go_enter Tryz.func55,Tryz.ntmps55;go_wp2;go_returns;exact Mj.nope c 0
theorem vQ(h:Nat)(t u b:dj)(r:List ej)(v:List (dj×List ej))(e:List (List UInt8))(d c:Int)(f:World)(i:Yj f h 0 t u b r v e)(l:e.length<=40):
  CP 55 #[.pointer (some ⟨h,0,none⟩),.int .i64 d,.int .i64 c] f (Mj f (Ak e d c)):=by
 have o:=vj (a:=b.a) (n':=b.n) (cap:=b.cap) i.hroots;obtain⟨q,p⟩:=jj.ofOwn (s:=b) i.hroots;have n:f.cell? ⟨h,2,none⟩=some (.slice b.a e.length b.cap):=by
  have:f.cell? ⟨h,2,none⟩=some (.slice b.a b.n b.cap):=aj.cell i.row 2 (by simp);rw[p]at this;exact this
 unfold Ak;by_cases m:c<0\/(e.length:Int)<c\/d<0\/c<d
 .rw[if_pos m];exact qH h e.length b d c f l n m
 .rw[if_neg m];by_cases k:d=0
  .rw[if_pos k];subst k;obtain⟨g,rfl⟩:∃g:Nat,c=g:=⟨c.toNat,by omega⟩;exact OW h e.length g b f l n (by omega)
  rw[if_neg k];obtain⟨g,rfl⟩:∃g:Nat,c=g:=⟨c.toNat,by omega⟩;obtain⟨j,rfl⟩:∃j:Nat,d=j:=⟨d.toNat,by omega⟩;simp only[Jaj];exact MF h j g b e f l (by have:=o.2.1;omega) (by have:=o.2.2.1;unfold maxLen at this;omega) n ⟨q,i.h8⟩ (by omega) (by omega) (by omega)
theorem cQ(a:Nd):(sj a).length=8:=Lj _
theorem rH(b:Option Addr)(d c:Nat)(a:World):CP 99 #[.slice b d c,.int .i64 ((0:Nat):Int)] a (zj a []):=by
 go_enter Tryz.func99,Tryz.ntmps99;go_wp2;go_returns;exact zj.nil a
theorem sH(a:Nat)(c:List (List UInt8))(d:Option Addr)(h e:Nat)(b:World)(n:1<=a)(o:a<=40)(f:CP 129 #[.slice d h e,.int .i64 a,.bool true] b (zj b c)):CP 99 #[.slice d h e,.int .i64 a] b (zj b c):=by
 have i:Hd (Calls _ _ _ _ (zj b c)):=f;clear f;have m:((a:Int)==0)=false:=by rw[tN];simp only[ne_eq,beq_iff_eq];omega
 go_enter Tryz.func99,Tryz.ntmps99;go_wp2_with fail;refine i.o.mono ?_;rintro p q g;unfold zj at g;obtain⟨l,rfl,k,j⟩:=g;go_wp2;go_returns;exact⟨l,rfl,k,j⟩
theorem NF(j d:Nat)(c a:Int)(b:World)(u:d<=40)(n:∀f,f=b->CP 94 #[.pointer (some ⟨j,0,none⟩)] f fun c k=>c=.returned (.int .i64 d)/\k=f)(r:a<1\/(d:Int)<a\/c<0\/a<=c):
  CP 50 #[.pointer (some ⟨j,0,none⟩),.int .i64 c,.int .i64 a] b (Mj b ([],4)):=by
 have v:(d:Int)<=40:=by omega
 have h:Hd (∀f,f=b->CP 94 #[.pointer (some ⟨j,0,none⟩)] f fun c k=>c=.returned (.int .i64 d)/\k=f):=n;clear n;by_cases i:a<1
 .go_enter Tryz.func50,Tryz.ntmps50;go_wp2;go_returns;exact Mj.nope b 4
 by_cases m:(d:Int)<a
 .have l:¬a<1:=i;go_enter Tryz.func50,Tryz.ntmps50;go_wp2_with fail;refine(h.o _ rfl).mono ?_;rintro o g ⟨rfl,e⟩;obtain rfl:b=g:=e.symm;clear e;go_wp2;go_returns;exact Mj.nope b 4
 by_cases q:c<0
 .have l:¬a<1:=i;have p:¬(d:Int)<a:=m;go_enter Tryz.func50,Tryz.ntmps50;go_wp2_with fail;refine(h.o _ rfl).mono ?_;rintro o g ⟨rfl,e⟩;obtain rfl:b=g:=e.symm;clear e;go_wp2;go_returns;exact Mj.nope b 4
 .have t:a<=c:=by omega
  have l:¬a<1:=i;have p:¬(d:Int)<a:=m;have s:¬c<0:=q;go_enter Tryz.func50,Tryz.ntmps50;go_wp2_with fail;refine(h.o _ rfl).mono ?_;rintro o g ⟨rfl,e⟩;obtain rfl:b=g:=e.symm;clear e;go_wp2;go_returns;exact Mj.nope b 4
theorem PW(k g b d:Nat)(h:List (List UInt8))(a:World)(G:g<=40)(o:∀e,e=a->CP 94 #[.pointer (some ⟨k,0,none⟩)] e fun b f=>b=.returned (.int .i64 g)/\f=e)(J:1<=d)(K:d<=g)(I:b<d)
  (q:CP 96 #[.pointer (some ⟨k,0,none⟩),.int .i64 d] a fun A f=>∃c:dj,A=.returned (.slice c.a c.n c.cap)/\Below a.heap.size a f/\CP 95 #[.slice c.a c.n c.cap,.int .i64 b] f (zj f h)):
  CP 50 #[.pointer (some ⟨k,0,none⟩),.int .i64 b,.int .i64 d] a (Mj a (h,0)):=by
 have v:Hd (∀e,e=a->CP 94 #[.pointer (some ⟨k,0,none⟩)] e fun b f=>b=.returned (.int .i64 g)/\f=e):=o;have x:Hd (Calls _ _ _ _ _):=q;clear o q;have H:(g:Int)<=40:=by omega
 have C:¬(d:Int)<1:=by omega
 have D:¬(g:Int)<d:=by omega
 have E:¬(b:Int)<0:=by omega
 have F:¬(d:Int)<=b:=by omega
 go_enter Tryz.func50,Tryz.ntmps50;go_wp2_with fail;refine(v.o _ rfl).mono ?_;rintro c B ⟨rfl,r⟩;obtain rfl:a=B:=r.symm;clear r;go_wp2_with fail;refine x.o.mono ?_;rintro c M ⟨L,rfl,i,n⟩;have u:Hd (Calls _ _ _ _ _):=n;clear n;go_wp2_with fail;refine u.o.mono ?_;rintro c s p;unfold zj at p;obtain⟨j,rfl,l,m⟩:=p;have w:Hd (s.ownsRow a.heap.size 36 8 (.slice j.a j.n j.cap) h.length (qj h)):=Hj l (fun z y=>WM i.size (l.lt z y).1);have t:Hd (BB a s):=i.trans (m.mono i.size);clear l m i;go_wp2;go_returns;exact⟨j,rfl,w.o,t.o⟩
theorem QW(f w:Nat)(x k:dj)(G:Option Nat)(y:List Tj)(J:List Pj)(F:List ej)(c:List Nd)(d e:Int)(h:World)(n:Az h f w x k G y J F c)(o:c.length<=40):
  CP 50 #[.pointer (some ⟨f,0,none⟩),.int .i64 d,.int .i64 e] h (Mj h (zk (c.map sj) d e)):=by
 obtain⟨E,t⟩:=jj.ofOwn (s:=k) n.own;have v:h.cell? ⟨f,2,none⟩=some k.val:=aj.cell n.row 2 (by simp);have q:∀j,j=h->CP 94 #[.pointer (some ⟨f,0,none⟩)] j fun d m=>d=.returned (.int .i64 (c.length:Int))/\m=j:=fun j z=>by
  subst z;have:=Ew f k j v (by omega);rw[t]at this;exact this
 unfold zk;by_cases b:e<1\/(((c.map sj).length:Nat):Int)<e\/d<0\/e<=d
 .rw[if_pos b];rw[FN]at b;exact NF f c.length d e h o q b
 .rw[if_neg b];rw[FN]at b;obtain⟨i,rfl⟩:∃i:Nat,e=i:=⟨e.toNat,by omega⟩;obtain⟨l,rfl⟩:∃l:Nat,d=l:=⟨d.toNat,by omega⟩;simp only[Jaj];refine PW f c.length l i _ h o q (by omega) (by simp at b;omega) (by omega) ((WQ f i k c h v E t o (fun H C=>(n.nds H C).1) (by simp at b;omega)).mono ?_);rintro L m ⟨g,rfl,r,A⟩;have p:=vj (a:=g.a) (n':=g.n) (cap:=g.cap) r;have D:tq m g.a ((c.take i).map sj):=⟨(jj.ofOwn (s:=g) r).1,fun K B=>by
   obtain⟨I,_,rfl⟩:=vN.1 B;exact cQ I⟩
  have u:=vX 42 l ((c.take i).map sj) g.a g.cap m (by simp;omega) (by omega) (by simp;omega) (by rw[FN,aN,LN (by simp at b;omega)];exact p.2.1) (by have:=p.2.2.1;unfold maxLen at this;omega) D (by simp;simp at b;omega);rw[FN,aN,LN (by simp at b;omega),Qaj]at u;exact⟨g,rfl,A,by rw[p.1];exact u⟩
theorem tH(j d:Nat)(c a:Int)(b:World)(u:d<=40)(n:∀f,f=b->CP 94 #[.pointer (some ⟨j,0,none⟩)] f fun c k=>c=.returned (.int .i64 d)/\k=f)(r:a<0\/(d:Int)<a\/c<0\/a<c):
  CP 54 #[.pointer (some ⟨j,0,none⟩),.int .i64 c,.int .i64 a] b (Mj b ([],4)):=by
 have v:(d:Int)<=40:=by omega
 have h:Hd (∀f,f=b->CP 94 #[.pointer (some ⟨j,0,none⟩)] f fun c k=>c=.returned (.int .i64 d)/\k=f):=n;clear n;by_cases i:a<0
 .go_enter Tryz.func54,Tryz.ntmps54;go_wp2;go_returns;exact Mj.nope b 4
 by_cases m:(d:Int)<a
 .have l:¬a<0:=i;go_enter Tryz.func54,Tryz.ntmps54;go_wp2_with fail;refine(h.o _ rfl).mono ?_;rintro o g ⟨rfl,e⟩;obtain rfl:b=g:=e.symm;clear e;go_wp2;go_returns;exact Mj.nope b 4
 by_cases q:c<0
 .have l:¬a<0:=i;have p:¬(d:Int)<a:=m;go_enter Tryz.func54,Tryz.ntmps54;go_wp2_with fail;refine(h.o _ rfl).mono ?_;rintro o g ⟨rfl,e⟩;obtain rfl:b=g:=e.symm;clear e;go_wp2;go_returns;exact Mj.nope b 4
 .have t:a<c:=by omega
  have l:¬a<0:=i;have p:¬(d:Int)<a:=m;have s:¬c<0:=q;go_enter Tryz.func54,Tryz.ntmps54;go_wp2_with fail;refine(h.o _ rfl).mono ?_;rintro o g ⟨rfl,e⟩;obtain rfl:b=g:=e.symm;clear e;go_wp2;go_returns;exact Mj.nope b 4
theorem OF(k g b d:Nat)(h:List (List UInt8))(a:World)(G:g<=40)(o:∀e,e=a->CP 94 #[.pointer (some ⟨k,0,none⟩)] e fun b f=>b=.returned (.int .i64 g)/\f=e)(J:0<=d)(K:d<=g)(I:b<=d)
  (q:CP 96 #[.pointer (some ⟨k,0,none⟩),.int .i64 d] a fun A f=>∃c:dj,A=.returned (.slice c.a c.n c.cap)/\Below a.heap.size a f/\CP 99 #[.slice c.a c.n c.cap,.int .i64 b] f (zj f h)):
  CP 54 #[.pointer (some ⟨k,0,none⟩),.int .i64 b,.int .i64 d] a (Mj a (h,0)):=by
 have v:Hd (∀e,e=a->CP 94 #[.pointer (some ⟨k,0,none⟩)] e fun b f=>b=.returned (.int .i64 g)/\f=e):=o;have x:Hd (Calls _ _ _ _ _):=q;clear o q;have H:(g:Int)<=40:=by omega
 have C:¬(d:Int)<0:=by omega
 have D:¬(g:Int)<d:=by omega
 have E:¬(b:Int)<0:=by omega
 have F:¬(d:Int)<b:=by omega
 go_enter Tryz.func54,Tryz.ntmps54;go_wp2_with fail;refine(v.o _ rfl).mono ?_;rintro c B ⟨rfl,r⟩;obtain rfl:a=B:=r.symm;clear r;go_wp2_with fail;refine x.o.mono ?_;rintro c M ⟨L,rfl,i,n⟩;have u:Hd (Calls _ _ _ _ _):=n;clear n;go_wp2_with fail;refine u.o.mono ?_;rintro c s p;unfold zj at p;obtain⟨j,rfl,l,m⟩:=p;have w:Hd (s.ownsRow a.heap.size 36 8 (.slice j.a j.n j.cap) h.length (qj h)):=Hj l (fun z y=>WM i.size (l.lt z y).1);have t:Hd (BB a s):=i.trans (m.mono i.size);clear l m i;go_wp2;go_returns;exact⟨j,rfl,w.o,t.o⟩
theorem PF(i x:Nat)(y n:dj)(H:Option Nat)(z:List Tj)(K:List Pj)(G:List ej)(c:List Nd)(f g:Int)(j:World)(o:Az j i x y n H z K G c)(p:c.length<=40):
  CP 54 #[.pointer (some ⟨i,0,none⟩),.int .i64 f,.int .i64 g] j (Mj j (Ak (c.map sj) f g)):=by
 obtain⟨F,u⟩:=jj.ofOwn (s:=n) o.own;have w:j.cell? ⟨i,2,none⟩=some n.val:=aj.cell o.row 2 (by simp);have r:∀l,l=j->CP 94 #[.pointer (some ⟨i,0,none⟩)] l fun f k=>f=.returned (.int .i64 (c.length:Int))/\k=l:=fun l A=>by
  subst A;have:=Ew i n l w (by omega);rw[u]at this;exact this
 unfold Ak;by_cases e:g<0\/(((c.map sj).length:Nat):Int)<g\/f<0\/g<f
 .rw[if_pos e];rw[FN]at e;exact tH i c.length f g j p r e
 .rw[if_neg e];rw[FN]at e;obtain⟨h,rfl⟩:∃h:Nat,g=h:=⟨g.toNat,by omega⟩;obtain⟨d,rfl⟩:∃d:Nat,f=d:=⟨f.toNat,by omega⟩;simp only[Jaj];rw[show(if(d:Int)=0 then(([]:List (List UInt8)),(0:Int))else(yk 42 d ((c.map sj).take h) true,0))=(if d=0 then[]else yk 42 d ((c.map sj).take h) true,0)by
   by_cases m:d=0
   .subst m;rfl
   .rw[if_neg m,if_neg (by omega)]]
  refine OF i c.length d h _ j p r (by omega) (by simp at e;omega) (by omega) ((WQ i h n c j w F u p (fun I D=>(o.nds I D).1) (by simp at e;omega)).mono ?_);rintro M k ⟨b,rfl,t,B⟩;have q:=vj (a:=b.a) (n':=b.n) (cap:=b.cap) t;have E:tq k b.a ((c.take h).map sj):=⟨(jj.ofOwn (s:=b) t).1,fun L C=>by
   obtain⟨J,_,rfl⟩:=vN.1 C;exact cQ J⟩
  refine⟨b,rfl,B,?_⟩;by_cases m:d=0
  .subst m;exact rH b.a b.n b.cap k
  .rw[if_neg m];have v:=wX 42 d ((c.take h).map sj) true b.a b.cap k (by simp;omega) (by omega) (by simp;omega) (by rw[FN,aN,LN (by simp at e;omega)];exact q.2.1) (by have:=q.2.2.1;unfold maxLen at this;omega) E (by omega) (by simp;simp at e;omega);rw[FN,aN,LN (by simp at e;omega),Qaj]at v;exact sH d _ b.a b.n b.cap k (by omega) (by simp at e;omega) (by rw[q.1];exact v)
end
section
theorem Tryz.infoDigests:(Tryz.prog.info? 62).map (fun a=>(a.zero,a.size,a.bytes))=some (some (.agg #[.slice none 0 0,.slice none 0 0,.slice none 0 0,.slice none 0 0,.int .i64 0]),5,104):=by kernel_rfl
theorem uH{r q l:World}{i:Nat}{G k C D:dj}{v:Value}{h:List Yq}{n:Yq}{c:Option Addr}{g d:Nat}(y:cx r k h)(z:cx q k h)(E:aj l i 34 [G.val,C.val,k.val,D.val])(B:Sv q (xq h.length) 8 n)(A:bj (fun a=>v.ownBlock=some a) r q)
  (u:∀a,cy n a->¬k.val.ownBlock=some a/\a≠i)(H:∀a,cy n a->v.ownBlock=some a\/r.heap.size<a)(J:∀a,Kj k h a->a≠i)(F:l.ownsRow 0 62 5 (.slice c g d) (h.length+1) (ux 0 h++qz n h.length))(s:bj (fun a=>k.val.ownBlock=some a) q l)
  (I:(Value.slice c g d).ownBlock=k.val.ownBlock\/(Value.slice c g d).ownBlock=some q.heap.size):
  aj (l.setCell ⟨i,2,none⟩ (.slice c g d)) i 34 [G.val,C.val,.slice c g d,D.val]/\cx (l.setCell ⟨i,2,none⟩ (.slice c g d)) ⟨c,g,d⟩ (h++[n])/\bj (fun a=>a=i\/v.ownBlock=some a\/k.val.ownBlock=some a) r (l.setCell ⟨i,2,none⟩ (.slice c g d))/\
   (∀a,Kj ⟨c,g,d⟩ (h++[n]) a->a<r.heap.size->Kj k h a\/v.ownBlock=some a):=by
 have t:bj (fun a=>a=i) l (l.setCell ⟨i,2,none⟩ (.slice c g d)):=(bj.refl (fun a=>a=i) _).setCell (p:=⟨i,2,none⟩) rfl _;have Q:=s.size;have P:=A.size;have w:∀a,(Value.slice c g d).ownBlock=some a->k.val.ownBlock=some a\/q.heap.size<=a:=fun a b=>by
  rcases I with j|j
  .exact SM (by rw[<-j];exact b)
  .rw[j]at b;have:=lN b;exact RM (by omega)
 have L:∀a,cy n a->(Value.slice c g d).ownBlock≠some a:=fun a b j=>by
  rcases w a j with e|e
  .exact(u a b).1 e
  .have:=B.lt a b;omega
 have N:∀o∈h,∀a,cy o a->(Value.slice c g d).ownBlock≠some a:=fun o f a b j=>by
  rcases w a j with e|e
  .exact y.apart o f a b e
  .have:=z.lt a (RM ⟨o,f,b⟩);omega
 have O:Sv (l.setCell ⟨i,2,none⟩ (.slice c g d)) (xq h.length) 8 n:=(B.frame s (fun a b=>(u a b).1)).frame t (fun a b=>(u a b).2);have M:∀m (e:m<h.length),Sv (l.setCell ⟨i,2,none⟩ (.slice c g d)) (xq m) 8 h[m]:=fun m e=>((z.ok m e).frame s (fun a b j=>y.apart _ (bN e) a b j)).frame t (fun a b j=>J a (RM ⟨_,bN e,b⟩) j);refine⟨by simpa using E.set 2 (.slice c g d),⟨?_,?_,?_⟩,?_,?_⟩
 .rw[XM,VN,xJ,sN];exact ij F t (fun a b j=>xj F E (by decide) (by rw[<-j];exact b))
 .intro m K;by_cases x:m<h.length
  .rw[kaj x];exact M m x
  .have:m=h.length:=by simp at K;omega
   subst this;rw[haj (TM _)];simpa using O
 .intro o f a b;rcases fN.1 f with f|f
  .exact N o f a b
  .simp only[eN]at f;subst f;exact L a b
 .refine bj.inside (bj.inside (A.mono (fun a _ b=>RM (SM b))) s (fun a _ b=>RM (RM b))) t (fun a _ b=>SM b)
 .intro a b x;rcases b with b|⟨o,f,b⟩
  .rcases w a b with e|e
   .exact SM (SM e)
   .omega
  .rcases fN.1 f with f|f
   .exact SM (RM ⟨o,f,b⟩)
   .simp only[eN]at f;subst f;rcases H a b with e|e
    .exact RM e
    .omega
attribute [local go_sem↓] Go.wp_at_zero Go.wp_at_succ
theorem UZ(g:Nat)(q e m n h:dj)(c:List Yq)(H:Nat)(a0:List Value)(y:Nat)(i:World)(s:aj i g 34 [q.val,m.val,e.val,n.val])(B:cx i e c)(U:i.ownsRow y 36 8 h.val H a0)(N:H<=1000000000)(T:c.length<=1200000000000)(Q:y<=i.heap.size)
  (X:∀d,h.val.ownBlock=some d->d≠g/\¬Kj e c d)(R:∀d,Kj e c d->d≠g):
  CP 53 #[.pointer (some ⟨g,1,none⟩),h.val] i fun j I=>j=.returned (.tuple #[])/\∃(z:dj) (b:Yq),aj I g 34 [q.val,m.val,z.val,n.val]/\cx I z (c++[b])/\bj (fun d=>d=g\/h.val.ownBlock=some d\/e.val.ownBlock=some d) i I/\(∀d,Kj z (c++[b]) d->d<i.heap.size->Kj e c d\/h.val.ownBlock=some d):=by
 have G:=(vj (a:=e.a) (n':=e.n) (cap:=e.cap) B.own).1;have w:Hd (Calls _ _ _ _ _):=SV h H a0 y c.length i U N (by omega) Q;have ao:i.cell? ⟨g,2,none⟩=some (.slice e.a e.n e.cap):=s.cell 2 (by simp);have ap:(e.n:Int)<=1200000000000:=by rw[G];omega
 have a4:Hd ((c.length:Int)=(e.n:Int)):=by unfold Hd;rw[G]
 rw[a4.o]at w;have ab:Hd (g<i.heap.size):=s.lt;have u:Hd (cx i e c):=B;have L:Hd (aj i g 34 [q.val,m.val,e.val,n.val]):=s;have r:Hd (∀d,h.val.ownBlock=some d->d≠g/\¬Kj e c d):=X;have a3:Hd (∀d,Kj e c d->d≠g):=R;clear G s B U Q N X R;unfold dj.val at w⊢;go_enter Tryz.func53,Tryz.ntmps53;go_wp2_with fail;refine w.o.mono ?_;rintro j f ⟨b,rfl,V,t,E⟩;have aa:Hd (∀d,Kj e c d->¬(Value.slice h.a h.n h.cap).ownBlock=some d):=fun d F j=>(r.o d j).2 F;have M:cx f e c:=u.o.frame t aa.o;have l:aj f g 34 [q.val,m.val,e.val,n.val]:=L.o.of_block (t.block _ L.o.lt (fun j=>(r.o _ j).1 rfl));have o:Below f.heap.size f ((f.alloc (.cells (rO b (c.length:Int)) 62)).alloc (.cells (rO b (c.length:Int)) 62)).drew:=by
  have p:Below f.heap.size f ((f.alloc (.cells (rO b (c.length:Int)) 62)).alloc (.cells (rO b (c.length:Int)) 62)):=tO.alloc (by simp) _;exact⟨p.os,p.tape,p.output,p.size,p.block⟩
 have C:=M.below o;have P:=l.below l.lt o;have W:=V.below o;have k:aj (f.alloc (.cells (rO b (c.length:Int)) 62)) f.heap.size 62 [.slice b.l.a b.l.n b.l.cap,.slice b.one.a b.one.n b.one.cap,.slice b.two.a b.two.n b.two.cap,.slice b.three.a b.three.n b.three.cap,.int .i64 (c.length:Int)]:=aj.new f _ _;have av:(f.alloc (.cells (rO b (c.length:Int)) 62)).cell? ⟨f.heap.size,0,none⟩=some (.slice b.l.a b.l.n b.l.cap):=k.cell 0 (by simp);have ax:(f.alloc (.cells (rO b (c.length:Int)) 62)).cell? ⟨f.heap.size,1,none⟩=some (.slice b.one.a b.one.n b.one.cap):=k.cell 1 (by simp);have aA:(f.alloc (.cells (rO b (c.length:Int)) 62)).cell? ⟨f.heap.size,2,none⟩=some (.slice b.two.a b.two.n b.two.cap):=k.cell 2 (by simp);have aB:(f.alloc (.cells (rO b (c.length:Int)) 62)).cell? ⟨f.heap.size,3,none⟩=some (.slice b.three.a b.three.n b.three.cap):=k.cell 3 (by simp);have aC:(f.alloc (.cells (rO b (c.length:Int)) 62)).cell? ⟨f.heap.size,4,none⟩=some (.int .i64 (c.length:Int)):=k.cell 4 (by simp);have aD:(f.alloc (.cells (rO b (c.length:Int)) 62)).cell? ⟨g,2,none⟩=some (.slice e.a e.n e.cap):=(l.alloc _).cell 2 (by simp);have aE:((f.alloc (.cells (rO b (c.length:Int)) 62)).alloc (.cells (rO b (c.length:Int)) 62)).cell? ⟨g,2,none⟩=some (.slice e.a e.n e.cap):=((l.alloc _).alloc _).cell 2 (by simp);have O:=k.alloc (.cells (rO b (c.length:Int)) 62);have K:Hd (World.ownsRow ((f.alloc (.cells (rO b (c.length:Int)) 62)).alloc (.cells (rO b (c.length:Int)) 62)).drew 0 62 5 (.slice e.a e.n e.cap) c.length (ux 0 c)):=C.own;have a9:Hd (jj ((f.alloc (.cells (rO b (c.length:Int)) 62)).alloc (.cells (rO b (c.length:Int)) 62)).drew (some ⟨f.heap.size+1,0,none⟩) (qz b c.length)):=by
  have:=jj.alloc_new (f.alloc (.cells (rO b (c.length:Int)) 62)) (qz b c.length) 62;simp only[YM]at this;exact this
 have a1:Hd (∀Y∈qz b c.length,Y.oneCell'=true):=fun Y ag=>YJ ag;have a2:Hd (cx ((f.alloc (.cells (rO b (c.length:Int)) 62)).alloc (.cells (rO b (c.length:Int)) 62)).drew e c):=C;have x:Hd (aj ((f.alloc (.cells (rO b (c.length:Int)) 62)).alloc (.cells (rO b (c.length:Int)) 62)).drew g 34 [q.val,m.val,e.val,n.val]):=P;have a8:Hd (Sv ((f.alloc (.cells (rO b (c.length:Int)) 62)).alloc (.cells (rO b (c.length:Int)) 62)).drew (xq c.length) 8 b):=W;have an:Hd (aj ((f.alloc (.cells (rO b (c.length:Int)) 62)).alloc (.cells (rO b (c.length:Int)) 62)) f.heap.size 62 [.slice b.l.a b.l.n b.l.cap,.slice b.one.a b.one.n b.one.cap,.slice b.two.a b.two.n b.two.cap,.slice b.three.a b.three.n b.three.cap,.int .i64 (c.length:Int)]):=O;have a6:Hd (∀d,cy b d->(Value.slice h.a h.n h.cap).ownBlock=some d\/i.heap.size<d):=E;have a5:Hd (bj (fun d=>(Value.slice h.a h.n h.cap).ownBlock=some d) i ((f.alloc (.cells (rO b (c.length:Int)) 62)).alloc (.cells (rO b (c.length:Int)) 62)).drew):=t.trans (bj.of_below_all o);have a7:Hd (∀d,cy b d->¬e.val.ownBlock=some d/\d≠g):=fun d F=>by
  rcases E d F with A|A
  .exact⟨fun j=>(r.o d A).2 (SM j),(r.o d A).1⟩
  .exact⟨fun j=>by have:=u.o.lt d (SM j);omega,by have:=ab.o;omega⟩
 have au:g<f.heap.size:=l.lt;have ar:g≠f.heap.size:=by omega
 have J:Hd (c.length<=1200000000000):=T;clear M l o C P W k O t E V T;unfold qz;unfold dj.val;go_wp2
 go_region_law ((refine cq (by rfl) (.tmp 16) (.tmp 18) 29 (by rfl) 0 62 _ 5 104 Tryz.underlying29 Tryz.infoDigests rfl (by decide) (.slice e.a e.n e.cap) c.length (ux 0 c) (by rfl) K.o ⟨f.heap.size+1,0,none⟩ 1 1 (qz b c.length) (by rfl) rfl a9.o a1.o (by have:=J.o;unfold maxLen;omega) (by have:=J.o;omega) (nN _) ?_;intro ac ah ad Z af S ae;have D:=aj.of_block x.o (S.block _ x.o.lt (fun j=>xj K.o x.o (by decide) j));have aI:Z.cell? ⟨g,2,none⟩=some (.slice e.a e.n e.cap):=aj.cell D 2 (by simp);have aO:Z.frozen? ⟨g,2,none⟩=false:=aj.frozen D 2))
 all_goals
  go_wp2;go_returns;obtain⟨ai,ak,al,am⟩:=uH (v:=.slice h.a h.n h.cap) u.o a2.o D a8.o a5.o a7.o a6.o a3.o af S ae;exact⟨rfl,⟨ac,ah,ad⟩,b,ai,ak,al,am⟩
end
section
attribute [local go_sem↓] Go.wp_at_zero Go.wp_at_succ
def Ij.addD(a:Ij)(b:dj)(c:Yq):Ij:={a with dg:=b,gs:=a.gs++[c]}
theorem Dj.moreD{h l i:World}{k:Nat}{q f v:dj}{r:List tj}{d:Ij}{g:Yq}(e:Dj h k q r d)(m:Below h.heap.size h l)(j:∀a,v.val.ownBlock=some a->h.heap.size<=a)(y:aj i k 34 [q.val,d.bs.val,f.val,d.es.val])(u:cx i f (d.gs++[g]))
  (n:bj (fun a=>a=k\/v.val.ownBlock=some a\/d.dg.val.ownBlock=some a) l i)(x:∀a,Kj f (d.gs++[g]) a->a<l.heap.size->Kj d.dg d.gs a\/v.val.ownBlock=some a):Dj i k q r (d.addD f g):=by
 have z:=m.size;have s:=e.below m;have p:∀a,Kj f (d.gs++[g]) a->a<h.heap.size->Kj d.dg d.gs a:=fun a c t=>by
  rcases x a c (by omega)with b|b
  .exact b
  .have:=j a b;omega
 refine e.turn (B':=d.addD f g) m n (fun a b=>?_) y (s.bk.frame n (fun a c b=>?_)) u (s.be.frame n (fun a c b=>?_)) (fun a c t=>?_) (fun a c o=>?_) (fun a c=>⟨(e.ap2 a c).1,fun o=>?_⟩)
 .rcases b with b|b|b
  .exact SM b
  .exact RM (RM (j a b))
  .exact RM (SM (RM (SM (SM b))))
 .have w:=e.low a (SM c);have:=e.bk.lt a c;rcases b with b|b|b
  .omega
  .have:=j a b;omega
  .exact e.ap1 a c (SM b)
 .have w:=e.low a (RM (RM c));have:=e.be.lt a c;rcases b with b|b|b
  .omega
  .have:=j a b;omega
  .exact(e.ap2 a c).2 (SM b)
 .rcases c with c|c|c
  .exact SM c
  .exact RM (SM (p a c t))
  .exact RM (RM c)
 .exact e.ap1 a c (p a o (e.bk.lt a c))
 .exact(e.ap2 a c).2 (p a o (e.be.lt a c))
theorem RW(e:List Value)(h i:Int)(m:Nat)(D:dj)(z:List tj)(k:Ij)(b:tj)(c:World)(w:Dj c m D z k)(aC:b∈z)(aP:e[0]? =some (.int .i64 8))(aR:e[2]? =some (.int .i64 h))(aS:e[3]? =some (.int .i64 i))(a7:k.gs.length<=1200000000000):
  CP 22 #[.pointer (some ⟨m,0,none⟩),.agg e.toArray,.pointer (some ⟨b.pb,0,none⟩)] c (kz 0 1 0 m D z k c):=by
 have l:=w.law.ok b aC;have H:Below c.heap.size c (c.alloc (.cells e.toArray 43)):=tO;have ab:b.pb<c.heap.size:=aj.lt l.lay.row;have ac:m<c.heap.size:=aj.lt w.law.row;have E:Hd (Dj c m D z k):=w;have b0:Hd (gz c b):=l;have am:Hd (k.gs.length<=1200000000000):=a7;have X:Hd (Calls _ _ _ _ (Mj (c.alloc (.cells e.toArray 43)).drew (zk (b.tds.map sj) h i))):=QW b.sb b.N b.en b.tr b.mp b.es b.xs b.its b.tds h i (c.alloc (.cells e.toArray 43)).drew (l.lay.below H.drew).sto l.t40;have ao:Hd (∀F,BB c F->CP 51 #[.pointer (some ⟨b.rb,0,none⟩),.int .i64 h,.int .i64 i] F (Mj F (zk (b.tds.map sj) h i))):=fun F aB=>by
  have w:=UJ b.rb b.now b.past b.roots b.nl b.pastL b.rl h i F (l.lay.below aB).ref (by rw[l.rl];simpa using l.t40);rw[l.rl]at w;exact w
 have J:Hd ((∀aT∈(zk (b.tds.map sj) h i).1,aT.length=8)/\(zk (b.tds.map sj) h i).1.length<=42):=NK _ _ _;generalize zk (b.tds.map sj) h i=r at*;have ag:c.cell? ⟨b.pb,0,none⟩=some (.pointer (some ⟨b.sb,0,none⟩)):=aj.cell l.lay.row 0 (by simp);have ah:c.cell? ⟨b.pb,1,none⟩=some (.pointer (some ⟨b.rb,0,none⟩)):=aj.cell l.lay.row 1 (by simp);clear w l a7;have ar:(c.alloc (.cells e.toArray 43)).cell? ⟨c.heap.size,0,none⟩=some (.int .i64 8):=by simp[go_sem,aP]
 have a2:(c.alloc (.cells e.toArray 43)).cell? ⟨c.heap.size,2,none⟩=some (.int .i64 h):=by simp[go_sem,aR]
 have a3:(c.alloc (.cells e.toArray 43)).cell? ⟨c.heap.size,3,none⟩=some (.int .i64 i):=by simp[go_sem,aS]
 have ae:(c.alloc (.cells e.toArray 43)).cell? ⟨b.pb,0,none⟩=some (.pointer (some ⟨b.sb,0,none⟩)):=by rw[H.cell (p:=⟨b.pb,0,none⟩) ab];exact ag
 have af:(c.alloc (.cells e.toArray 43)).cell? ⟨b.pb,1,none⟩=some (.pointer (some ⟨b.rb,0,none⟩)):=by rw[H.cell (p:=⟨b.pb,1,none⟩) ab];exact ah
 have P:c.heap.size<(c.alloc (.cells e.toArray 43)).heap.size:=by simp
 have U:Hd (BB c (c.alloc (.cells e.toArray 43))):=H;clear H ag ah;go_enter Tryz.func22,Tryz.ntmps22;go_wp2;generalize b1:c.alloc (.cells e.toArray 43)=o at*
 go_region_held3 (fun u=>u.cell? ⟨b.pb,0,none⟩=some (.pointer (some ⟨b.sb,0,none⟩))/\u.cell? ⟨c.heap.size,2,none⟩=some (.int .i64 h)/\u.cell? ⟨c.heap.size,3,none⟩=some (.int .i64 i)) (go_keep)
  ((go_at_call 50;refine X.o.mono ?_;rintro S j a9;unfold Mj at a9;obtain⟨d,rfl,a8,A⟩:=a9;have t:Below o.heap.size o j:=⟨A.os,A.tape,A.output,A.size,A.block⟩;have ap:j.cell? ⟨b.pb,0,none⟩=_:=(t.cell (p:=⟨b.pb,0,none⟩) (by show b.pb<o.heap.size;omega)).trans ae;have a0:j.cell? ⟨c.heap.size,2,none⟩=_:=(t.cell (p:=⟨c.heap.size,2,none⟩) P).trans a2;have a1:j.cell? ⟨c.heap.size,3,none⟩=_:=(t.cell (p:=⟨c.heap.size,3,none⟩) P).trans a3))
 have Z:j.cell? ⟨b.pb,1,none⟩=some (.pointer (some ⟨b.rb,0,none⟩)):=(t.cell (p:=⟨b.pb,1,none⟩) (by show b.pb<o.heap.size;omega)).trans af;have an:Hd (j.ownsRow o.heap.size 36 8 (.slice d.a d.n d.cap) r.1.length (qj r.1)):=a8;have Q:Hd (BB c j):=U.o.trans (t.mono U.o.size);have ad:c.heap.size<j.heap.size:=qN P t.size;have aI:o.heap.size<=j.heap.size:=t.size;clear a8 A t ae af ar a2 a3 X ap;go_wp2
 go_region_held3 (fun u=>u.cell? ⟨b.pb,1,none⟩=some (.pointer (some ⟨b.rb,0,none⟩))/\u.cell? ⟨c.heap.size,2,none⟩=some (.int .i64 h)/\u.cell? ⟨c.heap.size,3,none⟩=some (.int .i64 i)) (go_keep)
  ((go_at_call 51;refine(ao.o _ (by repeat' (first|(with_reducible exact Q.o)|(with_reducible refine AN ?_)))).mono ?_;rintro S g aa;unfold Mj at aa;obtain⟨y,rfl,R,B⟩:=aa;have x:Below j.heap.size j g:=⟨B.os,B.tape,B.output,B.size,B.block⟩;have au:g.cell? ⟨b.pb,1,none⟩=_:=(x.cell (p:=⟨b.pb,1,none⟩) (by show b.pb<j.heap.size;omega)).trans Z;have av:g.cell? ⟨c.heap.size,2,none⟩=_:=(x.cell (p:=⟨c.heap.size,2,none⟩) ad).trans a0;have ax:g.cell? ⟨c.heap.size,3,none⟩=_:=(x.cell (p:=⟨c.heap.size,3,none⟩) ad).trans a1))
 have V:Hd (BB c g):=Q.o.trans (x.mono Q.o.size);have K:Hd (g.ownsRow o.heap.size 36 8 (.slice d.a d.n d.cap) r.1.length (qj r.1)):=lj an.o x;have aD:d.n=r.1.length:=(vj (a:=d.a) (n':=d.n) (cap:=d.cap) K.o).1;have aE:y.n=r.1.length:=(vj (a:=y.a) (n':=y.n) (cap:=y.cap) R).1;have Y:Hd (Calls _ _ _ _ _):=mJ r.1 d.a y.a d.cap y.cap g ⟨(jj.ofOwn (s:=d) K.o).1,J.o.1⟩ ⟨(jj.ofOwn (s:=y) R).1,J.o.1⟩ (by have:=J.o.2;omega);have L:Hd (∀f,(Value.slice d.a d.n d.cap).ownBlock=some f->c.heap.size<f):=fun f n=>qN P (K.o.lt f n).1;have aO:o.heap.size<=g.heap.size:=WM aI x.size;have W:Hd (∀C,CP 53 #[.pointer (some ⟨m,1,none⟩),.slice d.a d.n d.cap] (g.drewN C) fun q T=>q=.returned (.tuple #[])/\∃G I,Dj T m D z (k.addD G I)/\Below m c T):=fun C=>by
  have a6:Below g.heap.size g (g.drewN C):=⟨rfl,rfl,rfl,TM _,fun _ _=>rfl⟩;have O:=V.o.trans (a6.mono V.o.size);have a5:=E.o.below O;refine(UZ m D k.dg k.bs k.es d k.gs r.1.length (qj r.1) o.heap.size (g.drewN C) a5.row a5.bd (lj K.o a6) (by have:=J.o.2;omega) am.o aO
   (fun f n=>⟨by have:=L.o f n;omega,fun q=>by have:=L.o f n;have:=E.o.bd.lt f q;omega⟩) (fun f n=>by have:=(E.o.low f (RM (SM n))).1;omega)).mono ?_
  rintro q T ⟨rfl,G,I,M,N,a4,aA⟩;refine⟨rfl,G,I,Dj.moreD (v:=d) E.o O (fun f n=>EN (L.o f n)) M N a4 aA,?_⟩;exact(O.mono (EN ac)).trans (a4.below (WM (EN ac) O.size) (fun f n=>by
   rcases n with q|q|q
   .omega
   .have:=L.o f q;omega
   .have:=(E.o.low f (RM (SM (SM q)))).1;omega))
 clear R B x au av ax Z a0 a1;rw[aD,aE]at*;go_wp2_with fail;refine Y.o.mono ?_;rintro S b2 ⟨rfl,C,rfl⟩;go_wp2_with fail;refine(W.o C).mono ?_;rintro S ai ⟨rfl,G,I,M,N⟩;have ak:Hd (Dj ai m D z (k.addD G I)):=M;have al:Hd (Below m c ai):=N;clear M N W Y;go_wp2;go_ret;exact⟨rfl,_,ak.o,by simp[Ij.addD],by simp[Ij.addD],by simp[Ij.addD],al.o⟩
theorem QF(e:List Value)(h i:Int)(m:Nat)(D:dj)(z:List tj)(k:Ij)(b:tj)(c:World)(w:Dj c m D z k)(aC:b∈z)(aP:e[0]? =some (.int .i64 9))(aR:e[2]? =some (.int .i64 h))(aS:e[3]? =some (.int .i64 i))(a7:k.gs.length<=1200000000000):
  CP 22 #[.pointer (some ⟨m,0,none⟩),.agg e.toArray,.pointer (some ⟨b.pb,0,none⟩)] c (kz 0 1 0 m D z k c):=by
 have l:=w.law.ok b aC;have H:Below c.heap.size c (c.alloc (.cells e.toArray 43)):=tO;have ab:b.pb<c.heap.size:=aj.lt l.lay.row;have ac:m<c.heap.size:=aj.lt w.law.row;have E:Hd (Dj c m D z k):=w;have b0:Hd (gz c b):=l;have am:Hd (k.gs.length<=1200000000000):=a7;have X:Hd (Calls _ _ _ _ (Mj (c.alloc (.cells e.toArray 43)).drew (Ak (b.tds.map sj) h i))):=PF b.sb b.N b.en b.tr b.mp b.es b.xs b.its b.tds h i (c.alloc (.cells e.toArray 43)).drew (l.lay.below H.drew).sto l.t40;have ao:Hd (∀F,BB c F->CP 55 #[.pointer (some ⟨b.rb,0,none⟩),.int .i64 h,.int .i64 i] F (Mj F (Ak (b.tds.map sj) h i))):=fun F aB=>by
  have w:=vQ b.rb b.now b.past b.roots b.nl b.pastL b.rl h i F (l.lay.below aB).ref (by rw[l.rl];simpa using l.t40);rw[l.rl]at w;exact w
 have J:Hd ((∀aT∈(Ak (b.tds.map sj) h i).1,aT.length=8)/\(Ak (b.tds.map sj) h i).1.length<=42):=OK _ _ _;generalize Ak (b.tds.map sj) h i=r at*;have ag:c.cell? ⟨b.pb,0,none⟩=some (.pointer (some ⟨b.sb,0,none⟩)):=aj.cell l.lay.row 0 (by simp);have ah:c.cell? ⟨b.pb,1,none⟩=some (.pointer (some ⟨b.rb,0,none⟩)):=aj.cell l.lay.row 1 (by simp);clear w l a7;have ar:(c.alloc (.cells e.toArray 43)).cell? ⟨c.heap.size,0,none⟩=some (.int .i64 9):=by simp[go_sem,aP]
 have a2:(c.alloc (.cells e.toArray 43)).cell? ⟨c.heap.size,2,none⟩=some (.int .i64 h):=by simp[go_sem,aR]
 have a3:(c.alloc (.cells e.toArray 43)).cell? ⟨c.heap.size,3,none⟩=some (.int .i64 i):=by simp[go_sem,aS]
 have ae:(c.alloc (.cells e.toArray 43)).cell? ⟨b.pb,0,none⟩=some (.pointer (some ⟨b.sb,0,none⟩)):=by rw[H.cell (p:=⟨b.pb,0,none⟩) ab];exact ag
 have af:(c.alloc (.cells e.toArray 43)).cell? ⟨b.pb,1,none⟩=some (.pointer (some ⟨b.rb,0,none⟩)):=by rw[H.cell (p:=⟨b.pb,1,none⟩) ab];exact ah
 have P:c.heap.size<(c.alloc (.cells e.toArray 43)).heap.size:=by simp
 have U:Hd (BB c (c.alloc (.cells e.toArray 43))):=H;clear H ag ah;go_enter Tryz.func22,Tryz.ntmps22;go_wp2;generalize b1:c.alloc (.cells e.toArray 43)=o at*
 go_region_held3 (fun u=>u.cell? ⟨b.pb,0,none⟩=some (.pointer (some ⟨b.sb,0,none⟩))/\u.cell? ⟨c.heap.size,2,none⟩=some (.int .i64 h)/\u.cell? ⟨c.heap.size,3,none⟩=some (.int .i64 i)) (go_keep)
  ((go_at_call 54;refine X.o.mono ?_;rintro S j a9;unfold Mj at a9;obtain⟨d,rfl,a8,A⟩:=a9;have t:Below o.heap.size o j:=⟨A.os,A.tape,A.output,A.size,A.block⟩;have ap:j.cell? ⟨b.pb,0,none⟩=_:=(t.cell (p:=⟨b.pb,0,none⟩) (by show b.pb<o.heap.size;omega)).trans ae;have a0:j.cell? ⟨c.heap.size,2,none⟩=_:=(t.cell (p:=⟨c.heap.size,2,none⟩) P).trans a2;have a1:j.cell? ⟨c.heap.size,3,none⟩=_:=(t.cell (p:=⟨c.heap.size,3,none⟩) P).trans a3))
 have Z:j.cell? ⟨b.pb,1,none⟩=some (.pointer (some ⟨b.rb,0,none⟩)):=(t.cell (p:=⟨b.pb,1,none⟩) (by show b.pb<o.heap.size;omega)).trans af;have an:Hd (j.ownsRow o.heap.size 36 8 (.slice d.a d.n d.cap) r.1.length (qj r.1)):=a8;have Q:Hd (BB c j):=U.o.trans (t.mono U.o.size);have ad:c.heap.size<j.heap.size:=qN P t.size;have aI:o.heap.size<=j.heap.size:=t.size;clear a8 A t ae af ar a2 a3 X ap;go_wp2
 go_region_held3 (fun u=>u.cell? ⟨b.pb,1,none⟩=some (.pointer (some ⟨b.rb,0,none⟩))/\u.cell? ⟨c.heap.size,2,none⟩=some (.int .i64 h)/\u.cell? ⟨c.heap.size,3,none⟩=some (.int .i64 i)) (go_keep)
  ((go_at_call 55;refine(ao.o _ (by repeat' (first|(with_reducible exact Q.o)|(with_reducible refine AN ?_)))).mono ?_;rintro S g aa;unfold Mj at aa;obtain⟨y,rfl,R,B⟩:=aa;have x:Below j.heap.size j g:=⟨B.os,B.tape,B.output,B.size,B.block⟩;have au:g.cell? ⟨b.pb,1,none⟩=_:=(x.cell (p:=⟨b.pb,1,none⟩) (by show b.pb<j.heap.size;omega)).trans Z;have av:g.cell? ⟨c.heap.size,2,none⟩=_:=(x.cell (p:=⟨c.heap.size,2,none⟩) ad).trans a0;have ax:g.cell? ⟨c.heap.size,3,none⟩=_:=(x.cell (p:=⟨c.heap.size,3,none⟩) ad).trans a1))
 have V:Hd (BB c g):=Q.o.trans (x.mono Q.o.size);have K:Hd (g.ownsRow o.heap.size 36 8 (.slice d.a d.n d.cap) r.1.length (qj r.1)):=lj an.o x;have aD:d.n=r.1.length:=(vj (a:=d.a) (n':=d.n) (cap:=d.cap) K.o).1;have aE:y.n=r.1.length:=(vj (a:=y.a) (n':=y.n) (cap:=y.cap) R).1;have Y:Hd (Calls _ _ _ _ _):=mJ r.1 d.a y.a d.cap y.cap g ⟨(jj.ofOwn (s:=d) K.o).1,J.o.1⟩ ⟨(jj.ofOwn (s:=y) R).1,J.o.1⟩ (by have:=J.o.2;omega);have L:Hd (∀f,(Value.slice d.a d.n d.cap).ownBlock=some f->c.heap.size<f):=fun f n=>qN P (K.o.lt f n).1;have aO:o.heap.size<=g.heap.size:=WM aI x.size;have W:Hd (∀C,CP 53 #[.pointer (some ⟨m,1,none⟩),.slice d.a d.n d.cap] (g.drewN C) fun q T=>q=.returned (.tuple #[])/\∃G I,Dj T m D z (k.addD G I)/\Below m c T):=fun C=>by
  have a6:Below g.heap.size g (g.drewN C):=⟨rfl,rfl,rfl,TM _,fun _ _=>rfl⟩;have O:=V.o.trans (a6.mono V.o.size);have a5:=E.o.below O;refine(UZ m D k.dg k.bs k.es d k.gs r.1.length (qj r.1) o.heap.size (g.drewN C) a5.row a5.bd (lj K.o a6) (by have:=J.o.2;omega) am.o aO
   (fun f n=>⟨by have:=L.o f n;omega,fun q=>by have:=L.o f n;have:=E.o.bd.lt f q;omega⟩) (fun f n=>by have:=(E.o.low f (RM (SM n))).1;omega)).mono ?_
  rintro q T ⟨rfl,G,I,M,N,a4,aA⟩;refine⟨rfl,G,I,Dj.moreD (v:=d) E.o O (fun f n=>EN (L.o f n)) M N a4 aA,?_⟩;exact(O.mono (EN ac)).trans (a4.below (WM (EN ac) O.size) (fun f n=>by
   rcases n with q|q|q
   .omega
   .have:=L.o f q;omega
   .have:=(E.o.low f (RM (SM (SM q)))).1;omega))
 clear R B x au av ax Z a0 a1;rw[aD,aE]at*;go_wp2_with fail;refine Y.o.mono ?_;rintro S b2 ⟨rfl,C,rfl⟩;go_wp2_with fail;refine(W.o C).mono ?_;rintro S ai ⟨rfl,G,I,M,N⟩;have ak:Hd (Dj ai m D z (k.addD G I)):=M;have al:Hd (Below m c ai):=N;clear M N W Y;go_wp2;go_ret;exact⟨rfl,_,ak.o,by simp[Ij.addD],by simp[Ij.addD],by simp[Ij.addD],al.o⟩
end
end Go.Proofs.YtekegfbjbainhaaGreat
