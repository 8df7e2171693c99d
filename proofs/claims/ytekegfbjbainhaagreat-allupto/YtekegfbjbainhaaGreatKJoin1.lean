import Derived.WalkKit
import Derived.WalkSpells
import Derived.WalkLawsBesides
import Derived.Laws.BitsAllLaws
import Derived.Handy
import Derived.Lib.LazyBuf
import Derived.Lib.SlBuf
import Derived.Deep.OwnRows
import Derived.Laws.OwnMore
import Derived.Laws.IdiomStrings
import Derived.Test.YtekegfbjbainhaaGreatRows
import Derived.Maps.AppendAt
import Derived.Laws.AppendOwnNone
import Derived.Deep.MidRow
import Derived.Lib.AppendStr
set_option maxRecDepth 100000
set_option maxHeartbeats 400000
set_option linter.unusedVariables false
set_option linter.unusedSimpArgs false
namespace Go.Proofs.YtekegfbjbainhaaGreat
open Go.RowKit
def Hd(p:Prop):Prop:=p
theorem Hd.o{p:Prop}(h:Hd p):p:=h
abbrev RM:= @Or.inr
abbrev SM:= @Or.inl
abbrev TM:= @Nat.le_refl
abbrev UM:= @List.getElem?_eq_getElem
abbrev VM:= @Below.refl
abbrev WM:= @Nat.le_trans
abbrev XM:= @List.length_append
abbrev YM:= @World.size_alloc
abbrev ZM:= @List.map_cons
abbrev aN:= @List.length_take
abbrev bN:= @List.getElem_mem
abbrev cN:= @List.getElem_cons_zero
abbrev dN:= @List.map_nil
abbrev eN:= @List.mem_singleton
abbrev fN:= @List.mem_append
abbrev gN:= @List.getElem_cons_succ
abbrev iN:= @World.ownsRow_nil
abbrev kN:= @List.getElem?_eq_some_iff
abbrev lN:= @Option.some.inj
abbrev mN:= @List.mem_of_getElem?
abbrev nN:= @Nat.zero_le
abbrev oN:= @List.length_drop
abbrev qN:= @Nat.lt_of_lt_of_le
abbrev rN:= @List.map_append
abbrev sN:= @Nat.zero_add
abbrev tN:= @Bool.eq_false_iff
abbrev uN:= @List.length_cons
abbrev vN:= @List.mem_map
abbrev wN:= @Nat.not_lt_zero
abbrev xN:= @Nat.succ_mul
abbrev yN:= @Option.some.injEq
abbrev zN:= @List.getElem?_map
abbrev AN:= @Below.drew
abbrev BN:= @World.ownsRow.cellAt
abbrev CN:= @World.ownsRow.frozenAt
abbrev DN:= @List.getElem?_append_left
abbrev EN:= @Nat.le_of_lt
abbrev FN:= @List.length_map
abbrev GN:= @Option.map_some
abbrev IN:= @List.mem_cons
abbrev JN:= @List.flatMap_cons
abbrev KN:= @List.flatMap_append
abbrev LN:= @Nat.min_eq_left
abbrev MN:= @List.getElem?_append_right
abbrev NN:= @List.append_assoc
abbrev ON:= @List.nil_append
abbrev PN:= @List.getElem_of_mem
abbrev QN:= @World.ownsRow.stored
abbrev RN:= @List.take_succ_eq_append_getElem
abbrev SN:= @Array.getElem?_eq_some_iff
abbrev TN:= @List.mem_of_mem_take
abbrev UN:= @World.cell?_of_block
abbrev VN:= @List.length_singleton
abbrev WN:= @Array.getD_eq_getD_getElem?
abbrev XN:= @List.append_nil
abbrev YN:= @Prod.mk.injEq
abbrev ZN:= @List.length_eq_zero_iff
abbrev aaj:= @List.take_of_length_le
abbrev baj:= @List.length_nil
abbrev caj:= @Bool.eq_iff_iff
abbrev daj:= @World.size_drew
abbrev eaj:= @Nat.add_zero
abbrev faj:= @Below.alloc
abbrev gaj:= @List.set_cons_zero
abbrev haj:= @List.getElem_append_right
abbrev iaj:= @List.getD_eq_getElem?_getD
abbrev jaj:= @List.not_mem_nil
abbrev kaj:= @List.getElem_append_left
abbrev laj:= @List.mem_of_mem_drop
abbrev maj:= @Below.trans
abbrev naj:= @List.drop_eq_getElem_cons
abbrev oaj:= @List.getElem?_drop
abbrev paj:= @Nat.add_assoc
abbrev qaj:= @IntKind.wrap_i64
abbrev raj:= @List.take_length
abbrev saj:= @List.setIfInBounds_toArray
abbrev taj:= @List.set_cons_succ
abbrev uaj:= @List.range_succ
abbrev vaj:= @Array.getElem?_toList
abbrev waj:= @List.cons.injEq
abbrev xaj:= @List.drop_eq_nil_of_le
abbrev yaj:= @List.getElem?_of_mem
abbrev zaj:= @List.getElem?_cons_succ
abbrev Aaj:= @Nat.sub_self
abbrev Baj:= @List.map_map
abbrev Caj:= @List.getElem?_set_self
abbrev Daj:= @Bool.and_eq_true
abbrev Eaj:= @List.mem_flatMap
abbrev Faj:= @List.length_pos_iff
abbrev Gaj:= @Nat.pow_succ
abbrev Haj:= @List.map_congr_left
abbrev Iaj:= @List.cons_ne_nil
abbrev Jaj:= @Int.toNat_natCast
abbrev Kaj:= @List.mem_iff_getElem
abbrev Laj:= @List.length_reverse
abbrev Maj:= @List.cons_append
abbrev Naj:= @List.take_append_drop
abbrev Oaj:= @List.getElem?_set_ne
abbrev Paj:= @List.getElem_map
abbrev Qaj:= @List.map_take
abbrev Raj:= @Array.length_toList
abbrev Saj:= @List.getElem?_eq_none
abbrev Taj:= @List.ext_getElem?
abbrev Uaj:= @Bool.false_eq_true
abbrev Vaj:= @List.pairwise_iff_getElem
abbrev Waj:= @Bool.not_eq_false
abbrev Xaj:= @List.eq_nil_of_length_eq_zero
abbrev Yaj:= @List.getElem?_take_of_lt
abbrev Zaj:= @List.takeWhile_cons
abbrev abj:= @Int.natCast_nonneg
abbrev bbj:= @List.pairwise_append
abbrev cbj:= @Nat.mul_le_mul_right
abbrev dbj:= @List.length_filter_le
abbrev ebj:= @List.getLast?_eq_getElem?
abbrev fbj:= @List.take_append_of_le_length
abbrev BB(w W:World):Prop:=Below w.heap.size w W
abbrev CP:=Calls Tryz.prog
theorem tO{a:World}{b:Obj}:Below a.heap.size a (a.alloc b):=(VM _ _).alloc (TM _) _
abbrev kO:Array Value:=#[.int .i64 0,.int .u8 0,.int .u8 0,.int .u8 0,.int .u8 0,.int .u8 0,.int .u8 0,.int .u8 0,.int .u8 0,.int .i64 0,.int .u8 0,.int .u8 0,.int .u8 0,.int .u8 0,.int .u8 0,.int .u8 0,.int .u8 0,.int .u8 0]
abbrev vO(i:Int)(a b c d e f g h:UInt8):Array Value:=#[.int .i64 i,.int .u8 a.toNat,.int .u8 b.toNat,.int .u8 c.toNat,.int .u8 d.toNat,.int .u8 e.toNat,.int .u8 f.toNat,.int .u8 g.toNat,.int .u8 h.toNat]
abbrev cO(a b c d e f g h:UInt8):Array Value:=#[.int .u8 a.toNat,.int .u8 b.toNat,.int .u8 c.toNat,.int .u8 d.toNat,.int .u8 e.toNat,.int .u8 f.toNat,.int .u8 g.toNat,.int .u8 h.toNat]
abbrev zO:Array Value:=#[.int .u8 0,.int .u8 0,.int .u8 0,.int .u8 0,.int .u8 0,.int .u8 0,.int .u8 0,.int .u8 0]
def tV(b:Int)(a:UInt8):Int:=IntKind.u64.wrap (bits BinOp.xor IntKind.u64 b (a.toNat:Int)*1099511628211)
def Xv(a:List UInt8):Int:=a.foldl tV 14695981039346656037
def Bk(a:Int):Int:=IntKind.u64.wrap (bits BinOp.xor IntKind.u64 a (a/4294967296)*11400714819323198485)
def Uw(a:Int):Int:=bits BinOp.xor IntKind.u64 a (a/536870912)
def JQ(a:List UInt8):Int:=Uw (Bk (Xv a))
def fj(a:UInt8):Value:=.int .u8 a.toNat
def Aw(b a:Int):UInt8:=UInt8.ofNat (b/a%256).toNat
def VJ(a:Int):List UInt8:=[Aw a 72057594037927936,Aw a 281474976710656,Aw a 1099511627776,Aw a 4294967296,Aw a 16777216,Aw a 65536,Aw a 256,Aw a 1]
def Aj(a:List UInt8):List UInt8:=VJ (JQ a)
def By(a:List UInt8):Value:=.agg ((Aj a).map fj).toArray
theorem NL(b a:Int):fj (Aw b a)=.int .u8 (b/a%256):=by
 unfold fj Aw;have c:(b/a%256).toNat<256:=by omega
 rw[UInt8.toNat_ofNat_of_lt' c]
 congr 1
 omega
theorem Lj(a:List UInt8):(Aj a).length=8:=rfl
theorem Jy(a:Int)(d:0<=a)(e:a<18446744073709551616):((VJ a).map fj).toArray=
  #[Value.int .u8 (a/72057594037927936),.int .u8 (a/281474976710656%256),.int .u8 (a/1099511627776%256),.int .u8 (a/4294967296%256),.int .u8 (a/16777216%256),.int .u8 (a/65536%256),.int .u8 (a/256%256),.int .u8 (a%256)]:=by
 have b:a/72057594037927936%256=a/72057594037927936:=by omega
 have c:a/1=a:=by omega
 simp only[VJ,ZM,dN,NL,b,c]
theorem SF(a:List UInt8):∃b c d e f g h i:Int,By a=.agg #[.int .u8 b,.int .u8 c,.int .u8 d,.int .u8 e,.int .u8 f,.int .u8 g,.int .u8 h,.int .u8 i]:=
 ⟨_,_,_,_,_,_,_,_,rfl⟩
theorem qJ(a:Int):0<=IntKind.u64.wrap a:=by
 simp only[IntKind.wrap_u64];omega
theorem wZ(a:Int):IntKind.u64.wrap a<18446744073709551616:=by
 simp only[IntKind.wrap_u64];omega
theorem KQ(b:List UInt8)(a:UInt8):Xv (b++[a])=tV (Xv b) a:=by simp[Xv]
theorem sZ(a:List UInt8):0<=Xv a/\Xv a<18446744073709551616:=by
 rcases List.eq_nil_or_concat a with rfl|⟨c,b,rfl⟩
 .simp[Xv]
 .rw[List.concat_eq_append,KQ];exact⟨qJ _,wZ _⟩
theorem VZ(a:Int):0<=Bk a/\Bk a<18446744073709551616:=⟨qJ _,wZ _⟩
theorem CY(a:Int)(d:0<=a)(e:a<18446744073709551616):0<=Uw a/\Uw a<18446744073709551616:=by
 unfold Uw;rw[u64_xor _ _ d e (by omega) (by omega)];have c:=Nat.xor_lt_two_pow (x:=a.toNat) (y:=(a/536870912).toNat) (n:=64) (by omega) (by omega);have b:(2:Nat)^64=18446744073709551616:=by decide
 rw[b]at c;exact⟨by omega,by omega⟩
theorem WW(a:List UInt8):0<=JQ a/\JQ a<18446744073709551616:=CY _ (VZ _).1 (VZ _).2
def FL(e:World)(c d:Nat)(b:List UInt8):Prop:=∀a (f:a<b.length),e.cell? ⟨c,d+a,none⟩=some (.int .u8 (b[a].toNat:Int))
def jq(e:World)(f:Option Addr)(c:List UInt8):Prop:=∀b (g:b<c.length),∃a d,f=some ⟨a,d,none⟩/\a<e.heap.size/\e.cell? ⟨a,d+b,none⟩=some (.int .u8 (c[b].toNat:Int))
theorem jq.nil(c:World)(a:Option Addr):jq c a []:=fun d b=>absurd b (wN _)
theorem jq.mk{c:World}{a b:Nat}{d:List UInt8}(f:a<c.heap.size)(e:FL c a b d):jq c (some ⟨a,b,none⟩) d:=fun h g=>⟨a,b,rfl,f,e h g⟩
theorem jq.below{w w':World}{a:Option Addr}{B:Nat}{f:List UInt8}(h:jq w a f)(d:Below B w w')(i:w.heap.size<=B):jq w' a f:=fun e l=>by
 obtain⟨b,g,j,c,k⟩:=h e l;exact⟨b,g,j,qN c d.size,by rw[d.cell (p:=⟨b,g+e,none⟩) (qN c i)];exact k⟩
structure bj(S:Nat->Prop)(w w':World):Prop where
 os:w'.os=w.os
 tape:w'.tape=w.tape
 output:w'.output=w.output
 size:w.heap.size<=w'.heap.size
 block:∀k,k<w.heap.size->¬S k->w'.heap[k]? =w.heap[k]?
theorem bj.refl(b:Nat->Prop)(a:World):bj b a a:=⟨rfl,rfl,rfl,TM _,fun _ _ _=>rfl⟩
theorem bj.trans{c:Nat->Prop}{d e f:World}(a:bj c d e)(b:bj c e f):bj c d f:=
 ⟨b.os.trans a.os,b.tape.trans a.tape,b.output.trans a.output,WM a.size b.size,fun i g h=>(b.block i (qN g a.size) h).trans (a.block i g h)⟩
theorem bj.mono{d e:Nat->Prop}{c g:World}(b:bj d c g)(i:∀a,a<c.heap.size->d a->e a):bj e c g:=
 ⟨b.os,b.tape,b.output,b.size,fun a f h=>b.block a f (fun j=>h (i a f j))⟩
theorem bj.of_below{c:Nat}{d e:World}(a:Below c d e):bj (fun b=>c<=b) d e:=
 ⟨a.os,a.tape,a.output,a.size,fun b _ f=>a.block b (by omega)⟩
theorem bj.of_below_all{S:Nat->Prop}{w b:World}(a:Below w.heap.size w b):bj S w b:=
 ⟨a.os,a.tape,a.output,a.size,fun d c _=>a.block d c⟩
theorem bj.setCell{a:Nat->Prop}{b c:World}(e:bj a b c){p:Addr}(g:a p.block)(h:Value):bj a b (c.setCell p h):=
 e.trans ⟨rfl,rfl,rfl,by simp[World.setCell],fun i _ f=>Below.heap_setCell _ _ _ _ (fun d=>f (d▸g))⟩
theorem bj.alloc{a:Nat->Prop}{w b:World}(c:bj a w b)(e:Obj):bj a w (b.alloc e):=
 c.trans ⟨rfl,rfl,rfl,by simp,fun f d _=>Below.heap_alloc _ _ _ d⟩
theorem bj.drew{b:Nat->Prop}{c d:World}(a:bj b c d):bj b c d.drew:=⟨a.os,a.tape,a.output,a.size,a.block⟩
theorem bj.below{c:Nat->Prop}{B:Nat}{w w':World}(a:bj c w w')(f:B<=w.heap.size)(d:∀b,c b->B<=b):Below B w w':=
 ⟨a.os,a.tape,a.output,a.size,fun b g=>a.block b (by omega) (fun e=>by have:=d b e;omega)⟩
theorem xX(b:List UInt8)(a:Nat)(c:a<b.length):b.take (a+1)=b.take a++[b[a]]:=by
 rw[RN c]
theorem uj{k:Type}(a:List k)(j:a.length=8):∃b c d e f g h i,a=[b,c,d,e,f,g,h,i]:=by
 match a,j with
 |[b,c,d,e,f,g,h,i],_=>exact⟨b,c,d,e,f,g,h,i,rfl⟩
def Yv(b:List UInt8)(a:Nat):Value:=.int .u8 ((b.getD a 0).toNat:Int)
structure Fy where
 kind:Int
 a:Int
 b:Int
 c:Int
 s:ByteArray
 t:ByteArray
 u:ByteArray
 d:List UInt8
 e:List UInt8
 path:Value
def Fy.cells(a:Fy):List Value:=[.int .i64 a.kind,.int .i64 a.a,.int .i64 a.b,.int .i64 a.c,.string a.s,.string a.t,.string a.u,
 Yv a.d 0,Yv a.d 1,Yv a.d 2,Yv a.d 3,Yv a.d 4,Yv a.d 5,Yv a.d 6,Yv a.d 7,
 Yv a.e 0,Yv a.e 1,Yv a.e 2,Yv a.e 3,Yv a.e 4,Yv a.e 5,Yv a.e 6,Yv a.e 7,a.path]
def aj(d:World)(a:Nat)(c:TypeId)(b:List Value):Prop:=d.heap[a]? =some (.cells b.toArray c (0,0))
def Vz(c:World)(a:Nat)(b:List UInt8):Prop:=aj c a 5 (b.map fj)
theorem aj.cell{e:World}{c g:Nat}{b:List Value}(d:aj e c g b)(a:Nat)(f:a<b.length):e.cell? ⟨c,a,none⟩=some b[a]:=by
 unfold aj at d;simp[World.cell?,d,f]
theorem aj.cell?{e:World}{a f:Nat}{d:List Value}(b:aj e a f d)(c:Nat):e.cell? ⟨a,c,none⟩=d[c]? :=by
 unfold aj at b;simp[World.cell?,b]
theorem aj.frozen{c:World}{a f:Nat}{e:List Value}(b:aj c a f e)(d:Nat):c.frozen? ⟨a,d,none⟩=false:=by
 unfold aj at b;simp[World.frozen?,b]
theorem aj.lt{c:World}{a e:Nat}{d:List Value}(b:aj c a e d):a<c.heap.size:=by
 unfold aj at b;exact(SN.1 b).1
theorem aj.of_block{e f:World}{a d:Nat}{c:List Value}(b:aj e a d c)(g:f.heap[a]? =e.heap[a]?):aj f a d c:=by
 unfold aj at b⊢;rw[g,b]
theorem aj.below{w w':World}{a c B:Nat}{b:List Value}(d:aj w a c b)(e:a<B)(f:Below B w w'):aj w' a c b:=d.of_block (f.block a e)
theorem aj.alloc{w:World}{a e:Nat}{c:List Value}(b:aj w a e c)(d:Obj):aj (w.alloc d) a e c:=b.of_block (Below.heap_alloc w d a b.lt)
theorem aj.set{g:World}{a e:Nat}{d:List Value}(b:aj g a e d)(c:Nat)(f:Value):aj (g.setCell ⟨a,c,none⟩ f) a e (d.set c f):=by
 unfold aj at b⊢;simp[World.setCell,Array.getElem?_modify,b]
theorem aj.other{c:World}{a e:Nat}{d:List Value}(g:aj c a e d){b:Addr}(h:a≠b.block)(f:Value):aj (c.setCell b f) a e d:=g.of_block (Below.heap_setCell c b f a h)
theorem aj.new(a:World)(c:Nat)(b:List Value):aj (a.alloc (.cells b.toArray c)) a.heap.size c b:=by
 unfold aj;show(a.heap.push _)[a.heap.size]? =_;simp
theorem Vz.cell{d:World}{c:Nat}{b:List UInt8}(e:Vz d c b)(a:Nat)(f:a<b.length):d.cell? ⟨c,a,none⟩=some (.int .u8 (b[a].toNat:Int)):=by
 have:=aj.cell e a (by simpa using f);rw[this];simp[fj]
theorem Vz.frozen{c:World}{a:Nat}{e:List UInt8}(d:Vz c a e)(b:Nat):c.frozen? ⟨a,b,none⟩=false:=aj.frozen d b
theorem Vz.lt{b:World}{a:Nat}{d:List UInt8}(c:Vz b a d):a<b.heap.size:=aj.lt c
theorem Vz.below{w w':World}{a B:Nat}{b:List UInt8}(c:Vz w a b)(d:a<B)(e:Below B w w'):Vz w' a b:=aj.below c d e
theorem Vz.set{e:World}{a:Nat}{d:List UInt8}(f:Vz e a d)(b:Nat)(c:UInt8):Vz (e.setCell ⟨a,b,none⟩ (.int .u8 c.toNat)) a (d.set b c):=by
 have:=aj.set f b (fj c);unfold Vz;rw[<-List.map_set]at this;exact this
theorem Vz.at{f:World}{b:Nat}{d:List UInt8}(g:Vz f b d)(e:Nat)(a:List UInt8)(l:∀i (c:i<a.length),d[e+i]? =some a[i]):FL f b e a:=fun i c=>by
 have h:=l i c;obtain⟨j,k⟩:=kN.1 h;rw[g.cell _ j,k]
theorem Vz.made(b:World)(a:Nat):Vz (b.alloc (.cells (madeCells #[.int .u8 0] a) 5)) b.heap.size (List.replicate a 0):=by
 have c:madeCells #[.int .u8 0] a=((List.replicate a (0:UInt8)).map fj).toArray:=by
  apply Array.toList_inj.1
  rw[toList_madeCells_one];simp[fj]
 rw[c];exact aj.new _ _ _
theorem Vz.setCells{d:Nat}:∀(b:List UInt8) (a:Nat) (e:World) (c:List UInt8),Vz e d c->a+b.length<=c.length->
  Vz (e.setCells d a (b.map fun g=>.int .u8 g.toNat)) d (c.take a++b++c.drop (a+b.length))
 |[],a,e,c,f,_=>by simpa[World.setCells]using f
 |g::b,a,e,c,f,i=>by
  simp only[uN]at i;simp only[ZM,World.setCells];have h:=Vz.setCells b (a+1) _ _ (f.set a g) (by simp;omega);refine cast (congrArg (Vz _ d) ?_) h;rw[List.drop_set_of_lt (by omega)];rw[List.take_add_one,List.take_set,Caj (by omega)];rw[List.set_eq_of_length_le (by simp;omega)];simp only[uN,NN,Option.toList,Maj,ON];rw[show a+1+b.length=a+(b.length+1)by omega]
theorem mx(b d a:Nat):(Addr.mk b d none).add a=⟨b,d+a,none⟩:=by
 unfold Addr.add;by_cases c:a=0
 .subst c;simp
 .simp[c]
theorem WJ{P:Program}(b:World)(g d e:TypeId)(c f h:Nat)(a:List UInt8)(m:P.underlying g=some (.slice e))(k:P.underlying e=some (.int .u8))(j:P.underlying d=some .string)
  (i:FL b c f a):(convert g d (.slice (some ⟨c,f,none⟩) a.length h)).run P b=.ok (.string ⟨a.toArray⟩) b:=
 run_convert_bytes_back b g d e ⟨c,f,none⟩ h a m k j (fun n l=>by rw[mx];exact i n l)
theorem hJ(a:ByteArray):(⟨a.data.toList.toArray⟩:ByteArray)=a:=by simp
theorem LM{c e:World}(f:Below c.heap.size c e):(∀a b,a<c.heap.size->e.cell? ⟨a,b,none⟩=c.cell? ⟨a,b,none⟩)/\(∀a b,a<c.heap.size->e.frozen? ⟨a,b,none⟩=c.frozen? ⟨a,b,none⟩):=
 ⟨fun a b d=>f.cell (p:=⟨a,b,none⟩) d,fun a b d=>f.frozen (p:=⟨a,b,none⟩) d⟩
theorem rJ(c:World)(a:ByteArray)(b:Nat)(g:TypeId)(d:Nat×Nat):FL (c.alloc (.cells (bytesRow a b) g d)) c.heap.size 0 a.data.toList:=fun f e=>by
 rw[sN,World.cell?_alloc_mark,bytesRow_at a b f (by simpa using e)];simp
theorem uV{a d:Nat}{c:World}(h:a<=d)(f:List Value)(e:Nat)(b:World)(g:Below a c b):Below a c (b.setCells d e f):=Go.below_setCells h f e b g
theorem Cx(b:Nat):∀(e:List Value) (c:Nat) (a:World),(a.setCells b c e).heap.size=a.heap.size
 |[],_,_=>rfl
 |f::d,c,a=>by rw[World.setCells,Cx b d];simp
theorem Tryz.infoU8:(Tryz.prog.info? 5).map (fun a=>(a.zero,a.size,a.bytes))=some (some (.int .u8 0),1,1):=by kernel_rfl
theorem Tryz.sizeU8(a:World):(Go.sizeOf 5).run Tryz.prog a=.ok 1 a:=by kernel_rfl
theorem AH(a:World):
  CP 14 #[.string ⟨#[]⟩,.bool true] a fun b c=>b=.returned (.slice none 0 0)/\c=a:=by
 go_enter Tryz.func14,Tryz.ntmps14;go_wp2;go_ret;exact⟨rfl,rfl⟩
def Sk(a:ByteArray):List UInt8:=a.data.toList++List.replicate 8 77
def Vw(b:ByteArray)(a:Nat):List UInt8:=b.data.toList++List.replicate a 77++List.replicate (8 - a) 0
theorem TF(b:ByteArray)(a:Nat)(d:a<8):(Vw b a).set (b.size+a) 77=Vw b (a+1):=by
 unfold Vw;have c:8 - a=(8 - (a+1))+1:=by omega
 rw[c,List.replicate_succ,List.set_append_right _ _ (by simp)];simp only[XM,Raj,ByteArray.size_data,List.length_replicate];rw[show b.size+a - (b.size+a)=0 by omega,gaj,List.replicate_succ' (n:=a)];simp
theorem BH(a:ByteArray)(j:Bool)(b:World)(C:a.size<=140737488351232)(w:(a.toList.isEmpty&&j)=false):
  CP 14 #[.string a,.bool j] b fun m i=>m=.returned (.slice (some ⟨b.heap.size,0,none⟩) a.size (a.size+8))/\Vz i b.heap.size (Sk a)/\Below b.heap.size b i/\i.heap.size=b.heap.size+1:=by
 have u:=fun b=>run_make_row' (P:=Tryz.prog) 38 5 (.int .u8 0) 1 Tryz.underlying38 Tryz.infoU8 rfl .i64 .i64 (a.size+8) (by omega) (by omega) b;rw[show((a.size+8:Nat):Int)=(a.size:Int)+8 by omega]at u;obtain⟨e,z,d,q,v⟩:∃e:World,(Builtin.copy_ #[38,9] 3 #[Value.slice (some ⟨b.heap.size,0,none⟩) (a.size+8) (a.size+8),Value.string a]).run Tryz.prog
   (b.alloc (Obj.cells (madeCells #[Value.int IntKind.u8 0] (a.size+8)) 5))=.ok (goInt a.size) e/\Vz e b.heap.size (Vw a 0)/\Below b.heap.size b e/\e.heap.size=b.heap.size+1:=by
  have f:=Vz.made b (a.size+8);refine⟨_,run_copy_string _ _ _ _ 5 b.heap.size 0 _ _ a Tryz.underlying38 Tryz.sizeU8 (by omega) (fun h s=>?_) (fun h s=>by rw[sN];exact f.frozen h),?_,?_,?_⟩
  .rw[sN,f.cell h (by simp;omega)];rfl
  .have o:=f.setCells a.data.toList 0 _ _ (by simp);refine cast (congrArg (Vz _ _) ?_) o;simp[Vw]
  .exact uV (TM _) _ _ _ tO
  .rw[Cx];simp
 have r:(a.toList.isEmpty=true/\j=false)\/a.toList.isEmpty=false:=by
  cases x:a.toList.isEmpty<;>simp_all
 clear w;rcases r with⟨p,rfl⟩|p
 all_goals
  go_enter Tryz.func14,Tryz.ntmps14;go_wp2
  go_loopw [6] (fun g wr=>∃c:Nat,c<=8/\g=.int .i64 ((a.size:Int)+c)/\Vz wr b.heap.size (Vw a c)/\Below b.heap.size b wr/\wr.heap.size=b.heap.size+1) (fun g _=>a.size+8 - (intOf g).toNat)
  case atStart=>exact⟨0,by omega,by simp,d,q,v⟩
  case round=>
   obtain⟨c,B,rfl,d,k,l⟩:=hrel;by_cases t:c<8
   .have y:=d.cell (a.size+c) (by simp[Vw];omega);have A:=d.frozen (a.size+c);go_wp2;refine⟨⟨c+1,by omega,by go_num,?_,k.setCell (TM _) _,by simpa using l⟩,by simp[intOf];omega⟩;rw[<-TF a c t];exact d.set (a.size+c) 77
   .have n:Hd (Vw a c=Sk a):=by
     unfold Hd Vw Sk;rw[show c=8 by omega];simp
    go_wp2;go_returns;exact⟨rfl,n.o▸d,k,l⟩
theorem CH(a:World):
  CP 16 #[.slice none 0 0,.string ⟨#[]⟩] a fun b c=>b=.returned (.bool true)/\c=a:=by
 have d:=fun a=>run_eql_slice_nil (P:=Tryz.prog) a 38 5 none 0 0 Tryz.underlying38;go_enter Tryz.func16,Tryz.ntmps16;go_wp2;go_ret;exact⟨rfl,rfl⟩
def Bw(b:ByteArray)(a:Nat):List UInt8:=List.replicate a 78++(Sk b).drop a
theorem LQ(a:ByteArray):(Sk a).length=a.size+8:=by simp[Sk]
theorem MQ(a:ByteArray)(b:Nat)(c:b<=a.size+8):(Bw a b).length=a.size+8:=by simp[Bw,LQ];omega
theorem UF(b:ByteArray)(a:Nat)(c:a<b.size+8):(Bw b a).set a 78=Bw b (a+1):=by
 unfold Bw;rw[List.set_append_right _ _ (by simp),List.length_replicate,show a - a=0 by omega,List.replicate_succ' (n:=a),naj (by rw[LQ];exact c),gaj];simp
theorem DH(b:ByteArray)(a:Nat)(c:a<b.size+8)(d:¬a<b.size):(Bw b a)[a]'(by rw[MQ _ _ (by omega)];exact c)=77:=by
 simp only[Bw,Sk];rw[haj (by simp)];simp only[List.length_replicate,List.getElem_drop];rw[haj (by simp;omega)];exact List.getElem_replicate _
theorem EH(b:ByteArray)(c:Nat)(d:World)(w:b.size<=140737488351232)(m:Vz d c (Sk b)):
  CP 16 #[.slice (some ⟨c,0,none⟩) b.size (b.size+8),.string b] d fun o n=>o=.returned (.bool true)/\bj (fun a=>a=c) d n/\n.heap.size=d.heap.size:=by
 have v:=fun d=>run_eql_slice_nil (P:=Tryz.prog) d 38 5 (some ⟨c,0,none⟩) b.size (b.size+8) Tryz.underlying38;have r:=WJ (P:=Tryz.prog) d 38 9 5 c 0 (b.size+8) b.data.toList Tryz.underlying38 Tryz.underlying5 Tryz.underlying9
  (m.at 0 _ (fun e l=>by rw[sN,Sk,DN l];exact UM l))
 rw[hJ,Raj,ByteArray.size_data]at r;go_enter Tryz.func16,Tryz.ntmps16;go_wp2
 go_loopw [5,7] (fun t e wr=>∃a:Nat,a<=b.size+8/\e=.int .i64 a/\t=.bool true/\Vz wr c (Bw b a)/\bj (fun a=>a=c) d wr/\wr.heap.size=d.heap.size) (fun _ e _=>b.size+8 - (intOf e).toNat)
 case atStart=>exact⟨0,by omega,by simp,by simp,by simpa[Bw]using m,bj.refl _ _,rfl⟩
 case round=>
  obtain⟨a,s,rfl,rfl,g,k,h⟩:=hrel;by_cases f:a<b.size+8
  .have q:=g.cell a (by rw[MQ _ _ s];exact f);have u:=g.frozen a;have j:Hd (Vz (wr.setCell ⟨c,a,none⟩ (.int .u8 78)) c (Bw b (a+1))):=by
    rw[<-UF b a f];exact g.set a 78
   have i:Hd (bj (fun a=>a=c) d (wr.setCell ⟨c,a,none⟩ (.int .u8 78))):=k.setCell rfl _;by_cases p:a<b.size
   .go_wp2;exact⟨⟨a+1,by omega,by go_num,by simp,j.o,i.o,by simpa using h⟩,by simp[intOf];omega⟩
   .rw[DH b a f p]at q;go_wp2;exact⟨⟨a+1,by omega,by go_num,by simp,j.o,i.o,by simpa using h⟩,by simp[intOf];omega⟩
  .go_wp2;go_returns;exact⟨rfl,k,h⟩
def lq(e:World)(c:Nat)(a:ByteArray)(b:Option Addr)(d:Nat):Prop:=
 (b=none/\d=0/\a=⟨#[]⟩)\/(b=some ⟨c,0,none⟩/\d=a.size+8/\Vz e c (Sk a))
theorem lq.sl{e:World}{f:Nat}{d:ByteArray}{a:Option Addr}{cap:Nat}(g:lq e f d a cap):jq e a d.data.toList:=by
 rcases g with⟨rfl,rfl,rfl⟩|⟨rfl,rfl,c⟩
 .exact jq.nil _ _
 .exact jq.mk c.lt (c.at 0 _ (fun h b=>by rw[sN,Sk,DN b];exact UM b))
theorem lq.below{w w':World}{c B:Nat}{f:ByteArray}{b:Option Addr}{d:Nat}(a:lq w c f b d)(j:Below B w w')(g:w.heap.size<=B):lq w' c f b d:=by
 rcases a with a|⟨h,i,e⟩
 .exact SM a
 .exact RM ⟨h,i,e.below (qN e.lt g) j⟩
theorem lq.lt{f:World}{b e:Nat}{j:ByteArray}{d:Option Addr}{g:Nat}(h:lq f b j d g)(a:d=some ⟨e,0,none⟩):e=b/\b<f.heap.size:=by
 rcases h with⟨c,_,_⟩|⟨c,_,i⟩
 .rw[c]at a;cases a
 .rw[c]at a;cases a;exact⟨rfl,i.lt⟩
theorem lq.frame{g h:World}{a:Nat}{S:Nat->Prop}{f:ByteArray}{c:Option Addr}{d:Nat}(b:lq g a f c d)(l:bj S g h)(j:¬S a):lq h a f c d:=by
 rcases b with b|⟨i,k,e⟩
 .exact SM b
 .exact RM ⟨i,k,aj.of_block e (l.block a e.lt j)⟩
theorem Dx(a:ByteArray)(f:Bool)(b:World)(m:a.size<=140737488351232):
  CP 14 #[.string a,.bool f] b fun c e=>∃g h,c=.returned (.slice g a.size h)/\lq e b.heap.size a g h/\Below b.heap.size b e/\e.heap.size<=b.heap.size+1:=by
 by_cases d:(a.toList.isEmpty&&f)=true
 .simp only[Daj,List.isEmpty_iff]at d;obtain⟨i,rfl⟩:=d;have c:a=⟨#[]⟩:=by
   have j:a.data.toList=[]:=by rw[<-i];exact(Lib.toList_data a).symm
   rw[<-hJ a,j]
  subst c;refine(AH b).mono ?_;rintro c n ⟨rfl,rfl⟩;exact⟨none,0,rfl,SM ⟨rfl,rfl,rfl⟩,VM _ _,by omega⟩
 .refine(BH a f b m (by simpa using d)).mono ?_;rintro c n ⟨rfl,l,k,o⟩;exact⟨_,_,rfl,RM ⟨rfl,rfl,l⟩,k,by omega⟩
theorem Ex(b:ByteArray)(c:Option Addr)(f e:Nat)(a:World)(m:b.size<=140737488351232)(i:lq a e b c f):
  CP 16 #[.slice c b.size f,.string b] a fun d h=>d=.returned (.bool true)/\bj (fun g=>c=some ⟨g,0,none⟩) a h/\h.heap.size=a.heap.size:=by
 rcases i with⟨rfl,rfl,rfl⟩|⟨rfl,rfl,l⟩
 .refine(CH a).mono ?_;rintro d o ⟨rfl,rfl⟩;exact⟨rfl,bj.refl _ _,rfl⟩
 .refine(EH b e a m l).mono ?_;rintro d o ⟨rfl,j,n⟩;exact⟨rfl,j.mono (fun g _ k=>by rw[k]),n⟩
def jj(e:World)(f:Option Addr)(c:List Value):Prop:=∀b (g:b<c.length),∃a d,f=some ⟨a,d,none⟩/\a<e.heap.size/\e.cell? ⟨a,d+b,none⟩=some c[b]
theorem jj.nil(c:World)(a:Option Addr):jj c a []:=fun d b=>absurd b (wN _)
theorem jj.of_block{b c:World}{e:Option Addr}{h:List Value}(l:jj b e h)(q:b.heap.size<=c.heap.size)(n:∀d,e=some d->d.block<b.heap.size->c.heap[d.block]? =b.heap[d.block]?):jj c e h:=fun k p=>by
 obtain⟨f,g,i,j,o⟩:=l k p;refine⟨f,g,i,qN j q,?_⟩;have m:=n ⟨f,g,none⟩ i j;rw[UN (w:=b) (w':=c) (a:=⟨f,g+k,none⟩) m];exact o
theorem jj.below{w w':World}{b:Option Addr}{B:Nat}{c:List Value}(e:jj w b c)(d:Below B w w')(f:∀a,b=some a->a.block<B):jj w' b c:=
 e.of_block d.size (fun a g _=>d.block _ (f a g))
theorem jj.below_all{a e:World}{b:Option Addr}{c:List Value}(f:jj a b c)(d:Below a.heap.size a e):jj e b c:=
 f.of_block d.size (fun i h g=>d.block _ g)
theorem jj.frame{e f:World}{S:Nat->Prop}{b:Option Addr}{c:List Value}(g:jj e b c)(d:bj S e f)(h:∀a,b=some a->¬S a.block):jj f b c:=
 g.of_block d.size (fun a j i=>d.block _ i (h a j))
theorem jq.toV{c:World}{a:Option Addr}{b:List UInt8}(e:jq c a b):jj c a (b.map fj):=fun j i=>by
 obtain⟨d,k,f,g,h⟩:=e j (by simpa using i);exact⟨d,k,f,g,by simpa[fj]using h⟩
theorem jj.toB{c:World}{a:Option Addr}{b:List UInt8}(e:jj c a (b.map fj)):jq c a b:=fun j i=>by
 obtain⟨d,k,f,g,h⟩:=e j (by simpa using i);exact⟨d,k,f,g,by simpa[fj]using h⟩
theorem jq.frame{c d:World}{S:Nat->Prop}{a:Option Addr}{b:List UInt8}(f:jq c a b)(h:bj S c d)(g:∀e,a=some e->¬S e.block):jq d a b:=(f.toV.frame h g).toB
theorem jj.alloc_new(a:World)(b:List Value)(d:TypeId):jj (a.alloc (.cells b.toArray d)) (some ⟨a.heap.size,0,none⟩) b:=fun e c=>⟨a.heap.size,0,rfl,by simp,by rw[sN,World.cell?_alloc_new];simp[c]⟩
theorem jq.of_row{d:World}{a t:Nat}{c:List UInt8}(b:aj d a t (c.map fj)):jq d (some ⟨a,0,none⟩) c:=
 jq.mk b.lt (fun f e=>by
  rw[sN,b.cell f (by simpa using e)];simp[fj])
theorem aj.new_at(c:World)(b d:Nat)(a:List Value)(e:d=c.heap.size):aj (c.alloc (.cells a.toArray b)) d b a:=by
 subst e;exact aj.new c b a
theorem aj.there{f:World}{a g:Nat}{d:List Value}(b:aj f a g d)(e:Nat)(i:e=d.length):f.there a 0 e:=fun c h=>by
 rw[sN];exact⟨by rw[b.cell c (by omega)];rfl,b.frozen c⟩
theorem aj.range{c:World}{a g:Nat}{b:List Value}(d:aj c a g b):c.rangeAt a 0 b:=fun f h e=>by
 rw[sN,d.cell? f];exact e
theorem aj.setCells{c h:Nat}:∀(d:List Value) (a:Nat) (e:World) (b:List Value),aj e c h b->a+d.length<=b.length->aj (e.setCells c a d) c h (b.take a++d++b.drop (a+d.length))
 |[],a,e,b,f,_=>by simpa[World.setCells]using f
 |k::g,a,e,b,f,j=>by
  simp only[uN]at j;simp only[World.setCells];have i:=aj.setCells g (a+1) _ _ (f.set a k) (by simp;omega);refine cast (congrArg (aj _ c h) ?_) i;rw[List.drop_set_of_lt (by omega)];rw[List.take_add_one,List.take_set,Caj (by omega)];rw[List.set_eq_of_length_le (by simp;omega)];simp only[uN,NN,Option.toList,Maj,ON];rw[show a+1+g.length=a+(g.length+1)by omega]
theorem aj.setAll{a d:Nat}{e:World}{c:List Value}(f:aj e a d c)(b:List Value)(h:b.length=c.length):aj (e.setCells a 0 b) a d b:=by
 have g:=aj.setCells b 0 e c f (by omega);refine cast (congrArg (aj _ a d) ?_) g;simp[h]
theorem bj.setCells{S:Nat->Prop}{e:Nat}{d:World}(f:S e):∀(i:List Value) (b:Nat) (c:World),bj S d c->bj S d (c.setCells e b i)
 |[],_,_,a=>a
 |h::g,b,c,a=>bj.setCells f g (b+1) _ (a.setCell (by exact f) h)
theorem Nj{k:World}{l s r g:Nat}{j:Value}{d:List Value}(i:k.ownsRow l s r j g d):
  ∃b h,j=.slice b g h/\jj k b d/\(b=none->h=0/\g=0)/\(∀a,b=some a->a.off=0/\a.spot=none/\l<=a.block/\a.block<k.heap.size)/\(∀f,j.ownBlock=some f↔b=some ⟨f,0,none⟩):=by
 rcases i.2 with⟨rfl,rfl⟩|⟨t,h,m,rfl,v,o,x,y,z,w⟩
 .have:d=[]:=Xaj (by simpa using i.1);subst this;exact⟨none,0,rfl,jj.nil _ _,fun _=>⟨rfl,rfl⟩,(fun a c=>by cases c),(fun f=>by simp[Value.ownBlock])⟩
 .have q:=(SN.1 o).1;refine⟨_,_,rfl,(fun e p=>⟨t,0,rfl,q,?_⟩),(fun c=>by cases c),(fun a c=>by cases c;exact⟨rfl,rfl,v,q⟩),(fun f=>by simp[Value.ownBlock])⟩;rw[sN];have u:m.toList[e]? =some d[e]:=by
   have n:(m.toList.take (g*r))[e]? =d[e]? :=by rw[w]
   rw[Yaj (by rw[<-i.1];exact p)]at n;rw[n];simp[p]
  unfold World.cell?;simp only[o];simpa using u
theorem vj{f:World}{e g m c:Nat}{a:Option Addr}{n' cap:Nat}{n:List Value}(h:f.ownsRow e g m (.slice a n' cap) c n):n'=c/\c<=cap/\cap<=maxLen/\(a=none/\c=0/\cap=0\/∃b,a=some ⟨b,0,none⟩/\e<=b/\b<f.heap.size):=by
 rcases h.2 with⟨d,rfl⟩|⟨b,o,p,d,k,i,j,l,q,r⟩
 .cases d;exact⟨rfl,TM _,by simp[maxLen],SM ⟨rfl,rfl,rfl⟩⟩
 .cases d;exact⟨rfl,j,l,RM ⟨b,rfl,k,(SN.1 i).1⟩⟩
theorem Ww(b:World)(e f g a:Nat)(c:List Value)(h:e<=b.heap.size)(d:c.length=a*g)(i:a<=maxLen):
  (b.alloc (.cells c.toArray f)).ownsRow e f g (.slice (some ⟨b.heap.size,0,none⟩) a a) a c:=by
 refine⟨d,RM ⟨b.heap.size,a,c.toArray,rfl,h,?_,TM _,i,by simp[d],by simp[<-d]⟩⟩;show(b.heap.push _)[b.heap.size]? =_;simp
theorem ij{k l:World}{c:Nat->Prop}{d e j i:Nat}{b:Value}{m:List Value}(f:k.ownsRow d e j b i m)(s:bj c k l)(p:∀h,b.ownBlock=some h->¬c h):l.ownsRow d e j b i m:=by
 refine⟨f.1,?_⟩;rcases f.2 with r|⟨a,n,o,rfl,q,g,rest⟩
 .exact SM r
 .exact RM ⟨a,n,o,rfl,q,by rw[s.block a (SN.1 g).1 (p a rfl)];exact g,rest⟩
theorem lj{a g:World}{b c e d:Nat}{f:Value}{h:List Value}(i:a.ownsRow b c e f d h)(j:Below a.heap.size a g):g.ownsRow b c e f d h:=
 ij i (bj.of_below_all (S:=fun _=>False) j) (fun _ _ k=>k)
theorem Hj{h:World}{j base' b g f:Nat}{a:Value}{i:List Value}(d:h.ownsRow j b g a f i)(m:∀e,a.ownBlock=some e->base'<=e):h.ownsRow base' b g a f i:=by
 refine⟨d.1,?_⟩;rcases d.2 with n|⟨c,k,l,rfl,o,rest⟩
 .exact SM n
 .exact RM ⟨c,k,l,rfl,m c rfl,rest⟩
theorem Pz{b e:Nat}{c d:World}(a:Below b (c.drewN e) d):Below b c d:=⟨a.os,a.tape,a.output,a.size,a.block⟩
theorem bj.of_grown{d e:World}{c:Option Nat}(a:d.grownBy e c):bj (fun b=>c=some b) d e:=
 ⟨a.os,a.tape,a.output,a.size,fun b g h=>a.block b g (fun f=>h f.symm)⟩
theorem rq{m:Program}{b:World}{G:Array Oper}{rest:List Oper}{p:Oper}{n:Act}{w:Exit->Act->World->Prop}(y:p.guard=none)(q r:Operand)(k:TypeId)
  (B:p.op=.call {callee:=.builtin .append,args:=#[q,r],argTypes:=#[k,k]})
  (j:Nat)(e:TypeId)(v:Value)(a bytes:Nat)(D:m.underlying k=some (.slice e))(S:(m.info? e).map (fun f=>(f.zero,f.size,f.bytes))=some (some v,a,bytes))(a3:v.cells.size=a)(a1:0<a)
  (d:Value)(g:Nat)(s:List Value)(C:n.eval q=d)(u:b.ownsRow j e a d g s)
  (o:Option Addr)(c t:Nat)(h:List Value)(E:n.eval r=.slice o c t)(A:h.length=c*a)(X:jj b o h)(Y:o=none->c=0/\t=0)(J:∀H∈h,H.oneCell'=true)
  (K:g+c<=maxLen)(P:(g+c)*bytes<=140737488355328)(N:j<=b.heap.size)
  (x:∀i l,l.ownsRow j e a i (g+c) (s++h)->bj (fun F=>d.ownBlock=some F) b l->(i.ownBlock=d.ownBlock\/i.ownBlock=some b.heap.size)->wpList m G w rest (n.put p.dst i) l):
  wpList m G w (p::rest) n b:=by
 obtain⟨f,z,a2,a0,O⟩:=info_parts S;cases o with
 |none=>
  obtain⟨rfl,rfl⟩:=Y rfl;have W:h=[]:=Xaj (by simpa using A);subst W;refine wpList_append_own_none y q r k B j e f a D z d g s C u E ?_;refine x d b ?_ (bj.refl _ _) (SM rfl);simpa using u
 |some I=>
  refine wpList_append_own_at b y q r k B j e f v a bytes D z a2 a0 O a3 a1 d g s C u I c t h E A (fun a4 H T=>?_) J K P N ?_
  .obtain⟨U,V⟩:=kN.1 T;obtain⟨a5,F,L,_,Q⟩:=X a4 U;cases L;rw[mx,Q,V]
  .intro i l Z R _ M;exact x i l Z (bj.of_grown R) M
def rj(d:World)(b:Nat)(c:Value)(a:List UInt8):Prop:=d.ownsRow b 5 1 c a.length (a.map fj)
theorem gx(c:List UInt8):∀a∈c.map fj,a.oneCell'=true:=fun a b=>by
 obtain⟨d,_,rfl⟩:=vN.1 b;rfl
theorem rj.built(b:World)(c:Nat)(a:List UInt8)(d:c<=b.heap.size)(e:a.length<=maxLen):rj (b.alloc (.cells (a.map fj).toArray 5)) c (.slice (some ⟨b.heap.size,0,none⟩) a.length a.length) a:=
 Ww b c _ 1 a.length (a.map fj) d (by simp) e
theorem rj.sl{d:World}{e:Nat}{a:Option Addr}{n cap:Nat}{c:List UInt8}(b:rj d e (.slice a n cap) c):jq d a c/\n=c.length/\(a=none->cap=0):=by
 obtain⟨i,j,h,g,f,_⟩:=Nj b;cases h;exact⟨g.toB,rfl,fun b=>(f b).1⟩
theorem Hq{e:World}{x:Array Oper}{rest:List Oper}{l:Oper}{i:Act}{q:Exit->Act->World->Prop}(C:l.guard=none)(o p:Operand)
  (F:l.op=.call {callee:=.builtin .append,args:=#[o,p],argTypes:=#[38,38]})
  (k:Nat)(h:Value)(c:List UInt8)(H:i.eval o=h)(G:rj e k h c)
  (j:Option Addr)(w m:Nat)(a:List UInt8)(I:i.eval p=.slice j w m)(D:w=a.length)(t:jq e j a)(E:j=none->m=0)
  (K:c.length+a.length<=140737488355328)(A:k<=e.heap.size)
  (y:∀b g d f,g=c.length+a.length->rj f k (.slice b g d) (c++a)->jq f b (c++a)->bj (fun v=>h.ownBlock=some v) e f->((Value.slice b g d).ownBlock=h.ownBlock\/(Value.slice b g d).ownBlock=some e.heap.size)->wpList Tryz.prog x q rest (i.put l.dst (.slice b g d)) f):
  wpList Tryz.prog x q (l::rest) i e:=by
 subst D;refine rq C o p 38 F k 5 (.int .u8 0) 1 1 Tryz.underlying38 Tryz.infoU8 rfl (by decide) h c.length (c.map fj) H G j a.length m (a.map fj) I (by simp) t.toV ?_ (gx a) (by unfold maxLen;omega) (by omega) A ?_
 .intro r;refine⟨?_,E r⟩;cases a with
  |nil=>rfl
  |cons N L=>
   obtain⟨J,v,s,_⟩:=t 0 (by simp);rw[r]at s;cases s
 .intro M f n B z;obtain⟨b,d,rfl,u,_⟩:=Nj n;rw[<-rN]at n u;refine y b _ d f rfl ?_ u.toB B z;unfold rj;rw[XM];exact n
theorem Tk{e:World}{p:Array Oper}{rest:List Oper}{i:Oper}{f:Act}{n:Exit->Act->World->Prop}(u:i.guard=none)(l m:Operand)
  (w:i.op=.call {callee:=.builtin .append,args:=#[l,m],argTypes:=#[38,9]})
  (g:Nat)(j:Value)(b:List UInt8)(y:f.eval l=j)(x:rj e g j b)(a:List UInt8)(D:f.eval m=.string ⟨a.toArray⟩)
  (H:b.length+a.length<=140737488355328)(r:g<=e.heap.size)
  (q:∀d o h c,rj c g (.slice d o h) (b++a)->jq c d (b++a)->bj (fun G=>j.ownBlock=some G) e c->wpList Tryz.prog p n rest (f.put i.dst (.slice d o h)) c):
  wpList Tryz.prog p n (i::rest) f e:=by
 obtain⟨F,v,E,B,s⟩:=info_parts Tryz.infoU8;have C:(ByteArray.mk a.toArray).size=a.length:=by simp[ByteArray.size]
 have A:Lib.strCells ⟨a.toArray⟩=a.map fj:=by unfold Lib.strCells;simp[fj]
 refine Lib.wpList_append_own_string e u l m 38 9 w g 5 F Tryz.underlying38 Tryz.underlying9 v E B s j b.length (b.map fj) y x ⟨a.toArray⟩ D (by unfold maxLen;omega) (by omega) r ?_;intro I c k t _;rw[A,C,<-rN]at k;obtain⟨d,h,rfl,z,_⟩:=Nj k;refine q d _ h c ?_ z.toB (bj.of_grown t);unfold rj;rw[XM];exact k
theorem xj{g:World}{h d n m c e:Nat}{f:Value}{o l:List Value}(i:g.ownsRow h d n f m o)(a:aj g c e l)(k:d≠e):f.ownBlock≠some c:=by
 intro b;rcases i.2 with⟨rfl,_⟩|⟨r,p,q,rfl,s,j,_⟩
 .simp[Value.ownBlock]at b
 .simp[Value.ownBlock]at b;subst b;unfold aj at a;rw[j]at a;simp at a;exact k a.2
def dV(a:List UInt8):Value:=.agg (a.map fj).toArray
theorem kx(a:List UInt8):By a=dV (Aj a):=rfl
theorem Tryz.infoDig:(Tryz.prog.info? 36).map (·.size)=some 8:=by kernel_rfl
theorem iq{o:Array Oper}{rest:List Oper}{d:Oper}{c:Act}{e:World}{k:Exit->Act->World->Prop}(q:d.guard=none)(i j:Operand)(r:d.op=.store 36 i j)
  (a:Nat)(s:c.eval i=.pointer (some ⟨a,0,none⟩))(b:List UInt8)(g:b.length=8)(t:c.eval j=dV b){n:List Value}(l:aj e a 36 n)(m:n.length=8)
  (p:∀f,aj f a 36 (b.map fj)->bj (fun h=>h=a) e f->f.heap.size=e.heap.size->wpList Tryz.prog o k rest (c.put d.dst undef) f):wpList Tryz.prog o k (d::rest) c e:=by
 refine wpList_store_mid q 36 i j r a 0 (b.map fj).toArray s t (by simpa[g]using l.there 8 m.symm) (by simpa[g]using Tryz.infoDig) (all_oneCell_toArray (gx b)) ?_;exact p _ (l.setAll _ (by simp[g,m])) (bj.setCells (S:=fun h=>h=a) rfl _ _ _ (bj.refl _ _)) (Cx _ _ _ _)
theorem uy{f:Func}{e:Ending->World->Prop}{a:Act}{c:World}{k b:Nat}{d:List UInt8}(n:f.results=#[ResultVar.cell k 36])(i:a.tmps.getD k undef=.pointer (some ⟨b,0,none⟩))
  (h:aj c b 36 (d.map fj))(l:d.length=8)(m:a.defers=[])(g:e (.returned (dV d)) c):bodyPost Tryz.prog f e .ret a c:=by
 refine bodyPost_ret (v:=dV d) ?_ m g;have o:=run_loadVar_mid (P:=Tryz.prog) c b 0 36 (d.map fj) _ h.range Tryz.underlying36 rfl (by simpa[l]using Tryz.infoDig);have j:a.tmps[k]?.getD undef=.pointer (some ⟨b,0,none⟩):=by rw[<-i];simp[WN]
 unfold results;rw[n];simp[j,o,dV,asAddr]
theorem Cv{g:Func}{f:Ending->World->Prop}{b:Act}{d:World}{k c a:Nat}{cs:List Value}{e:TypeDesc}(o:g.results=#[ResultVar.cell k a])(j:b.tmps.getD k undef=.pointer (some ⟨c,0,none⟩))
  (i:aj d c a cs)(r:Tryz.prog.underlying a=some e)(m:e.isRow=true)(p:(Tryz.prog.info? a).map (·.size)=some cs.length)(n:b.defers=[])(h:f (.returned (.agg cs.toArray)) d):bodyPost Tryz.prog g f .ret b d:=by
 refine bodyPost_ret (v:=.agg cs.toArray) ?_ n h;have q:=run_loadVar_mid (P:=Tryz.prog) d c 0 a cs e i.range r m p;have l:b.tmps[k]?.getD undef=.pointer (some ⟨c,0,none⟩):=by rw[<-j];simp[WN]
 unfold results;rw[o];simp[l,q,asAddr]
end Go.Proofs.YtekegfbjbainhaaGreat
