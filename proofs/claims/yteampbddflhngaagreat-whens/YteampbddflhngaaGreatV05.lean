import Derived.Test.YteampbddflhngaaGreatV03
namespace Go.Proofs.YteampbddflhngaaGreat
set_option maxRecDepth 100000
set_option maxHeartbeats 1000000
open Go.Proofs.Tryz Go.RowKit
section
variable {lo:Nat}{w:World}{v:Value}{r:List Pd}{o:Option (List zc)}
def vS(lo:Nat)(w:World):List zc->List Value->Prop
 |[],a=>a=[]
 |c::e,a=>∃d b r,a=.bool c.head.neg::.string c.head.pred::d::b::r/\Pg lo w d c.head.args/\PB lo w b c.body/\vS lo w e r
theorem vS.snoc{w:World}{c:zc}{b a:Value}(g:Pg lo w b c.head.args)(f:PB lo w a c.body):∀{d:List zc} {e:List Value},vS lo w d e->vS lo w (d++[c]) (e++[.bool c.head.neg,.string c.head.pred,b,a])
 |[],_,h=>by simp only[vS] at h;subst h;exact⟨b,a,[],rfl,g,f,rfl⟩
 |_::d,_,h=>by obtain⟨v,i,r,rfl,k,j,l⟩:=h;exact⟨v,i,r++[.bool c.head.neg,.string c.head.pred,b,a],rfl,k,j,vS.snoc g f l⟩
theorem vS.mono{w d:World}(f:∀b l,Pg lo w b l->Pg lo d b l)(a:∀b l,PB lo w b l->PB lo d b l):∀{c:List zc} {e:List Value},vS lo w c e->vS lo d c e
 |[],_,h=>h
 |_::c,_,h=>by obtain⟨v,g,r,rfl,j,i,k⟩:=h;exact⟨v,g,r,rfl,f _ _ j,a _ _ i,vS.mono f a k⟩
theorem vS.at{w:World}:∀{e:List zc} {d:List Value} (i:Nat) (c:zc),vS lo w e d->e[i]?=some c →
  ∃g f,d[i*4]?=some (.bool c.head.neg)/\d[i*4+1]?=some (.string c.head.pred)/\d[i*4+2]?=some g/\d[i*4+3]?=some f/\Pg lo w g c.head.args/\PB lo w f c.body
 |[],_,i,a,_,b=>by simp at b
 |_::e,_,0,a,h,b=>by obtain⟨v,j,r,rfl,l,k,m⟩:=h;simp at b;subst b;exact⟨v,j,rfl,rfl,rfl,rfl,l,k⟩
 |_::e,_,i+1,a,h,b=>by
  obtain⟨v,j,r,rfl,l,k,m⟩:=h;obtain⟨g,f,t,q,n,s,p⟩:=vS.at i a m (by simpa using b);refine⟨g,f,?_,?_,?_,?_,p⟩
  ·rw[show(i+1)*4=i*4+1+1+1+1 from by omega];simpa using t
  ·rw[show(i+1)*4+1=i*4+1+1+1+1+1 from by omega];simpa using q
  ·rw[show(i+1)*4+2=i*4+2+1+1+1+1 from by omega];simpa using n
  ·rw[show(i+1)*4+3=i*4+3+1+1+1+1 from by omega];simpa using s
def PE(lo:Nat)(T:TypeId)(w:World)(v:Value)(a:List zc):Prop:=∃b,w.ownsRow lo T 4 v a.length b/\vS lo w a b
theorem vS.low{a b:Nat}{w:World}(c:a<=b):∀{d:List zc} {e:List Value},vS b w d e->vS a w d e
 |[],_,h=>h
 |_::d,_,h=>by obtain⟨v,f,r,rfl,i,g,j⟩:=h;exact⟨v,f,r,rfl,i.low c,g.low c,vS.low c j⟩
theorem PE.low{a b:Nat}{T:TypeId}{w:World}{v:Value}{l:List zc}(h:PE b T w v l)(c:a<=b):PE a T w v l:=by obtain⟨e,h,d⟩:=h;exact⟨e,yr h c,d.low c⟩
theorem PE.qw{T:TypeId}{l:List zc}(h:PE lo T w v l):∃b a,v=.slice b l.length a:=by obtain⟨c,h,_⟩:=h;exact zq h
theorem PE.below{T:TypeId}{w b:World}{v:Value}{l:List zc}(h:PE lo T w v l)(a:Below w.heap.size w b):PE lo T b v l:=by
 obtain⟨d,h,c⟩:=h;exact⟨d,zE h a,c.mono (fun _ _ k=>k.below a) (fun _ _ k=>k.below a)⟩
theorem PB.push{c g:World}{b:Nat}{e:TypeId}{s:Nat}{j:Value}{n:Nat}{p:List Value}{i:List zj}(l:c.ownsRow b e s v n p)(f:e≠90)(a:e≠9)(h:PB lo c j i)
  (m:∀k,k<c.heap.size->some k≠v.ownBlock->g.heap[k]?=c.heap[k]?):PB lo g j i:=by
 obtain⟨d,t,q⟩:=h;exact⟨d,kM l f t m,q.mono fun _ _ k=>kM l a k m⟩
def yH(a:Nat):Nat->List Pd->Option (List zc)
 |_,[]=>some []
 |0,_::_=>none
 |m+1,x::r=>match uR a (x::r) with
  |none=>none
  |some (c,b)=>(yH a m b).map (c::·)
theorem rY{a m:Nat}(b:r≠[])(h:uR a r=none):yH a (m+1) r=none:=by
 cases r with
 |nil=>exact zC rfl b
 |cons x r=>simp[yH,h]
theorem po{a m:Nat}{r2:List Pd}{c:zc}(b:r≠[])(h:uR a r=some (c,r2)):yH a (m+1) r=(yH a m r2).map (c::·):=by
 cases r with
 |nil=>exact zC rfl b
 |cons x r=>simp[yH,h]
theorem KU{n:Nat}:∀{r r2:List Pd} {b:List zj},xM n r=some (b,r2)->r2.length<r.length:=by
 induction n with
 |zero=>intro r r2 b h;simp[xM] at h
 |succ n g=>
  intro r r2 b h;cases c:uy r with
  |none=>rw[pu c] at h;cases h
  |some z=>
   obtain⟨a,e⟩:=z;have:=Cy c;by_cases f:Pw e=6
   ·rw[pe c f] at h;cases d:xM n e.tail with
    |none=>rw[d] at h;simp at h
    |some z=>
     rw[d] at h;simp at h;have:=g d;obtain⟨_,rfl⟩:=h;simp at this;omega
   ·rw[pf c f] at h;simp at h;obtain⟨_,rfl⟩:=h;omega
theorem Oa{n:Nat}{r2:List Pd}{c:zc}(h:uR n r=some (c,r2)):r2.length<r.length:=by
 unfold uR at h;split at h
 ·cases h
 ·rename_i a f d;have:=rF d;split at h
  ·split at h
   ·cases h
   ·rename_i b g e;have:=KU e;split at h<;>simp at h
    obtain⟨_,rfl⟩:=h;simp at this ⊢;omega
  ·split at h<;>simp at h
   obtain⟨_,rfl⟩:=h;simp;omega
theorem N2(w:World)(r:Nat)(c:Value)(l rest:List Pd)(h:Rd w r c l rest)(j:l.length<=500)(a:Nat)(b:rest.length<=a)(g:uR a rest=none):
  Calls prog 100 #[.pointer (some ⟨r,0,none⟩)] w fun e f=>e=.returned (.tuple #[.agg #[.bool false,.string ByteArray.empty,.slice none 0 0,.slice none 0 0],.bool false])/\Pm r w f:=by
 refine(Dy w r c l rest h j a b).mono ?_;rintro e f ⟨i,d⟩;rw[g] at d;exact⟨d,i⟩
theorem Oh(w:World)(r:Nat)(g:Value)(l rest r2:List Pd)(c:zc)(h:Rd w r g l rest)(t:l.length<=500)(i:Nat)(j:rest.length<=i)(p:uR i rest=some (c,r2)):
  Calls prog 100 #[.pointer (some ⟨r,0,none⟩)] w fun e f=>∃m k,e=.returned (.tuple #[.agg #[.bool c.head.neg,.string c.head.pred,m,k],.bool true])/\Pg w.heap.size f m c.head.args/\PB w.heap.size f k c.body/\Rd f r g l r2/\Pm r w f:=by
 refine(Dy w r g l rest h t i j).mono ?_;rintro e f ⟨s,n⟩;rw[p] at n;obtain⟨v,q,a,b,c,d⟩:=n;exact⟨v,q,a,b,c,d,s⟩
theorem OA:(prog.info? 171).map (fun i=>(i.zero,i.size,i.bytes))=some (some (.agg #[.bool false,.string ByteArray.empty,.slice none 0 0,.slice none 0 0]),4,72):=by kernel_rfl
def iM(o:Option (List zc))(w:World)(e:Ending)(a:World):Prop:=
 Below w.heap.size w a/\match o with
  |none=>e=.returned (.tuple #[.slice none 0 0,.bool false])
  |some b=>∃v,e=.returned (.tuple #[v,.bool true])/\PE w.heap.size 171 a v b
theorem Nc{a:World}(h:Hid (o=none))(c:Below w.heap.size w a):iM o w (.returned (.tuple #[.slice none 0 0,.bool false])) a:=by
 have b:o=none:=h;subst b;exact⟨c,rfl⟩
theorem KK{a:World}{cs:List zc}(h:Hid (o=some cs))(d:Below w.heap.size w a)(c:PE w.heap.size 171 a v cs):iM o w (.returned (.tuple #[v,.bool true])) a:=by
 have b:o=some cs:=h;subst b;exact⟨d,v,rfl,c⟩
theorem Qg(w:World)(wv:Value)(l:List Pd)(y:Nat)(hw:w.ownsRow y 182 2 wv l.length (jL l))(hl:l.length<=500):
  Calls prog 60 #[wv] w fun e w'=>iM (yH l.length l.length l) w e w':=by
 obtain⟨i0,hi,ae,ac,ah⟩:=info_parts OA;obtain⟨U,u,rfl⟩:=zq hw;have h0:Rd (w.alloc (.cells #[.slice U l.length u,.int .i64 0] 185)) w.heap.size (.slice U l.length u) l l:=
  ⟨⟨0,zv _,rfl,OZ.new _ _ _⟩,y,zE hw zO⟩
 clear hw;go_enter func60,ntmps60;go_wp2;go_loopg [5] (l.length) (fun n v wr=>∃(f:List zc) (b:List Pd) (m:Nat) (xs:List Value),b.length<=n/\b.length<=m/\b.length+f.length<=l.length ∧
   wr.ownsRow (w.heap.size+1) 171 4 v f.length xs/\vS w.heap.size wr f xs/\Rd wr w.heap.size (.slice U l.length u) l b/\Pm w.heap.size (w.alloc (.cells #[.slice U l.length u,.int .i64 0] 185)) wr ∧
   Hid (yH l.length l.length l=(yH l.length m b).map (f++·)))
 case atStart=>exact⟨[],l,l.length,[],zh _,zh _,by simp,yK _ _ _ _,rfl,h0,Pm.refl _ _,(by simp[Hid])⟩
 case round=>
  obtain⟨f,b,m,xs,hn,hm,ar,A,M,s,g,E⟩:=hrel;have F:w.heap.size<=wr.heap.size:=by have:=g.size;simp at this;omega
  obtain⟨c0,f0,d⟩:=s.cell;have ab:=OY d;obtain⟨p,am,al,hp,H,ag,I,aq,au,an,hx⟩:=s.view;clear ag hx I;cases b with
  |nil=>
   have N:p=l.length:=by
    have:=congrArg List.length H;simp at this;omega
   have K:Hid (yH l.length l.length l=some f):=by rw[Hid.out E];cases m<;>simp[yH,Hid]
   have P:=zO.trans (g.below (zh _) (by simp));subst N;clear H E d;go_wp2;go_ret2
   exact KK K P ⟨_,yr A (by omega),M⟩
  |cons x r0=>
   have N:p<l.length:=by
    rcases gA p l.length with h|h
    ·exact h
    ·rw[ui h] at H;cases H
   clear H;have q:x::r0≠[]:=by simp
   obtain⟨m,rfl⟩:∃m',m=m'+1:=⟨m-1,by simp at hm;omega⟩;generalize x::r0=b at *;have HN:Hid (b.length<=l.length):=by unfold Hid;omega
   cases C:uR l.length b with
   |none=>
    have HC:=OY C;have K:Hid (yH l.length l.length l=none):=by rw[Hid.out E,rY q C];simp[Hid]
    clear C q E;go_wp2_with (first|(go_at_call 100;refine(N2 _ w.heap.size _ l b s hl l.length HN HC).mono ?_;rintro e w1 ⟨rfl,a⟩;have i:=g.trans a;have J:=i.size;have B:=zO.trans (i.below (zh _) (by simp))))
    go_ret2
    have ak:=B.size;exact Nc K (by go_grown)
   |some z=>
    obtain⟨c,T⟩:=z;have HC:=OY C;have ap:=Oa C;have K:Hid (yH l.length l.length l=(yH l.length m T).map ((f++[c])++·)):=by rw[Hid.out E,po q C,rg];rfl
    clear C q E;go_wp2_with (first|(go_at_call 100;refine(Oh _ w.heap.size _ l b T c s hl l.length HN HC).mono ?_;rintro e w1 ⟨va,vb,rfl,O,S,V,a⟩;obtain⟨W,ad,rfl⟩:=O.qw;obtain⟨ao,av,rfl⟩:=S.qw;have i:=g.trans a;have J:=i.size;have X:=(by simpa using J);have j:=xQ A a d (by decide);have R:=M.mono (fun _ _ k=>k.but a d (by decide)) (fun _ _ k=>k.but a d (by decide) (by decide)))|(at_builtin;refine jY w1 _ _ _ rfl (.tmp 22) (.tmp 24) 121 rfl (w.heap.size+1) 171 i0 _ 4 72 underlying121 hi ae ac ah rfl (by decide) _ _ _ rfl j zO _ _ rfl (by simp) rfl (by simp[Value.oneCell']) (by omega) (by omega) X ?_;intro v' w2 af Q aa ai t aj;clear aa ai;have G:=Rd.keep h0 V (by simpa using Q);have D:=i.onto (by simpa using Q);have Z:Pg w.heap.size w2 (Value.slice W c.head.args.length ad) c.head.args:=yr (kM j (by decide) O t) F;have Y:=(S.push j (by decide) (by decide) t).low F;have L:=R.mono (fun _ _ k=>kM j (by decide) k t) (fun _ _ k=>k.push j (by decide) (by decide) t)))
    go_roundg T.length
    case measure=>omega
    case rel=>exact⟨f++[c],T,m,_,zh _,by omega,by simp;omega,by rw[yz];exact af,L.snoc Z Y,G,D,K⟩
end
section
variable {lo:Nat}{l:List ByteArray}
theorem fO(t:ByteArray)(w:World):
  Calls prog 156 #[.string t] w fun e a=>e=.returned (.bool (zV t))/\a=w:=by
 unfold zV;by_cases h:0<t.size
 ·rw[vY h];go_enter func156,ntmps156;go_wp2
  all_goals go_ret
  all_goals go_light
  all_goals exact⟨by simp_all [vE];try omega,rfl⟩
 ·rw[np h];go_enter func156,ntmps156;go_wp2
  all_goals go_ret
  all_goals go_light
  all_goals exact⟨by simp_all [vE],rfl⟩
theorem Pg.cell{w:World}{d:Option Addr}{n cap:Nat}{vs:List ByteArray}(h:Pg lo w (.slice d n cap) vs)(k:Nat)(i:k<vs.length):∃g,d=some ⟨g,0,none⟩/\g<w.heap.size/\w.cell? ⟨g,k,none⟩=some (.string vs[k]):=by
 have e:=h;obtain⟨g,c,b,_,f,a⟩:=y7 e (by omega);simp at b;exact⟨g,b.1,f,a k _ (by simp[i])⟩
def yu:List ByteArray->ByteArray->Option Nat
 |[],_=>none
 |y::r,n=>if y=n then some 0 else(yu r n).map (·+1)
def dO(l:List ByteArray)(n:ByteArray):Int:=match yu l n with
 |none=>-1
 |some k=>k
theorem fo:∀{l:List ByteArray} {n:ByteArray} {k:Nat},yu l n=some k->∃h:k<l.length,l[k]=n
 |[],_,_,h=>by simp[yu] at h
 |y::r,n,k,h=>by
  unfold yu at h;split at h
  ·simp at h;subst h;exact⟨by simp,by simpa⟩
  ·cases a:yu r n with
   |none=>rw[a] at h;simp at h
   |some j=>rw[a] at h;simp at h;subst h;obtain⟨c,b⟩:=fo a;exact⟨by simpa using c,by simpa using b⟩
theorem wt{n:ByteArray}{k:Nat}(b:k<l.length)(a:l[k]≠n):yu (l.drop k) n=(yu (l.drop (k+1)) n).map (·+1):=by rw[xg b,yu,za a]
theorem eG{n:ByteArray}{k:Nat}(b:k<l.length)(a:l[k]=n):yu (l.drop k) n=some 0:=by rw[xg b,yu,zb a]
theorem eO:∀(l:List ByteArray) (n:ByteArray),(yu l n).isSome=yt n l
 |[],n=>by rw[rj.2 (by simp)];rfl
 |y::r,n=>by
  unfold yu;by_cases e:y=n
  ·rw[zb e,qS.2 (by simp[e])];rfl
  ·rw[za e,Option.isSome_map,eO r n];cases h:yt n r with
   |true=>exact(qS.2 (nW _ (qS.1 h))).symm
   |false=>exact(rj.2 (by have:=rj.1 h;simp[this,Ne.symm e])).symm
theorem KB(w:World)(f:Nat)(h:Value)(vs:List ByteArray)(t:ByteArray)(b:OZ w f #[h] 246)(j:Pg lo w h vs)(r:vs.length<=1000):
  Calls prog 200 #[.pointer (some ⟨f,0,none⟩),.string t] w fun e p=>e=.returned (.tuple #[.int .i64 ((yu vs t).getD 0:Nat),.bool (yu vs t).isSome])/\p=w:=by
 obtain⟨u,v⟩:=b.rules;obtain⟨q,o,rfl⟩:=j.qw;go_enter func200,ntmps200;go_wp2;go_loop [13] (fun i=>∃k:Nat,k<=vs.length/\i=.int .i64 k/\Hid (yu vs t=(yu (vs.drop k) t).map (·+k))) (fun i=>vs.length-(intOf i).toNat)
 case atStart=>exact⟨0,zv _,rfl,by simp[Hid]⟩
 case round=>
  obtain⟨k,x,rfl,H⟩:=hrel;by_cases a:k<vs.length
  ·obtain⟨g,rfl,s,n⟩:=j.cell k a;by_cases d:vs[k]=t
   ·have m:=ka d;have c:Hid (yu vs t=some k):=by rw[Hid,H.out,eG a d];simp
    go_wp2;go_ret2
    exact⟨by rw[c.out];rfl,rfl⟩
   ·have m:=qz d;have c:Hid (yu vs t=(yu (vs.drop (k+1)) t).map (·+(k+1))):=by
     rw[Hid,H.out,wt a d];cases yu (vs.drop (k+1)) t<;>simp;omega
    go_wp2;go_round
    case rel=>exact⟨k+1,by omega,by go_num,c⟩
    case measure=>simp[intOf];omega
  ·have c:Hid (yu vs t=none):=by rw[Hid,H.out,ui (by omega)];rfl
   go_wp2;go_ret2
   exact⟨by rw[c.out];rfl,rfl⟩
theorem sS(w:World)(b:Nat)(c:Value)(vs:List ByteArray)(t:ByteArray)(a:OZ w b #[c] 246)(g:Pg lo w c vs)(h:vs.length<=1000):
  Calls prog 183 #[.pointer (some ⟨b,0,none⟩),.string t] w fun e f=>e=.returned (.bool (yt t vs))/\f=w:=by
 rw[←eO vs t];have d:=OY (KB w b c vs t a g h);generalize yu vs t=o at *;go_enter func183,ntmps183;go_wp2_with (first|(go_at_call 200;refine d.out.mono ?_;rintro e f ⟨rfl,rfl⟩;clear d))
 go_ret;exact⟨rfl,rfl⟩
end
section
variable {lo:Nat}{w:World}{c:Array Value}{vs:List ByteArray}{t:ByteArray}
theorem OZ.set{b:Nat}{T:TypeId}(h:OZ w b c T)(o:Nat)(u:Value):OZ (w.setCell ⟨b,o,none⟩ u) b (c.setIfInBounds o u) T:=by
 unfold OZ at *;simp[World.setCell,Array.getElem?_modify,h]
theorem OZ.set_ne{b b':Nat}{T:TypeId}(h:OZ w b c T)(a:b≠b')(o:Nat)(u:Value):OZ (w.setCell ⟨b',o,none⟩ u) b c T:=by
 unfold OZ at *;rw[Below.heap_setCell _ _ _ _ a];exact h
theorem OZ.push{d o:World}{b:Nat}{e T:TypeId}{s:Nat}{v:Value}{n j:Nat}{r:List Value}(x:d.ownsRow b e s v n r)(l:e≠T)(h:OZ d j c T)
  (u:∀k,k<d.heap.size->some k≠v.ownBlock->o.heap[k]?=d.heap[k]?):OZ o j c T:=by
 have i:=h.lt;unfold OZ at *;rw[u j i ?_]
 ·exact h
 ·intro g;obtain⟨_,⟨f,_⟩|⟨y,p,q,m,_,a,_⟩⟩:=x
  ·subst f;cases g
  ·subst m;simp only[Value.ownBlock,zs] at g;subst g;rw[h] at a;simp at a;exact l a.2.symm
structure fy (vb:Nat) (w w':World):Prop where
 size:w.heap.size<=w'.heap.size
 box:∀b c T,b≠vb->T≠9->OZ w b c T->OZ w' b c T
theorem fy.trans{d:Nat}{a b c:World}(h:fy d a b)(k:fy d b c):fy d a c:=⟨zT h.size k.size,fun x y z f e g=>k.box x y z f e (h.box x y z f e g)⟩
theorem fy.of{b:Nat}{a:World}(h:Below w.heap.size w a):fy b w a:=⟨h.size,fun _ _ _ _ _ k=>k.below h⟩
def VA(B:Nat)(w:World)(b:Nat)(vs:List ByteArray):Prop:=∃a,OZ w b #[a] 246/\w.ownsRow B 9 1 a vs.length (vs.map Value.string)
theorem VA.below{B:Nat}{w d:World}{a:Nat}{vs:List ByteArray}(h:VA B w a vs)(b:Below w.heap.size w d):VA B d a vs:=by
 obtain⟨f,g,e⟩:=h;exact⟨f,g.below b,zE e b⟩
theorem Dg(vs args:List ByteArray)(k:Nat)(a:k<args.length):xp vs (args.take (k+1))=jq (xp vs (args.take k)) args[k]:=by
 unfold xp;rw[yM a,ju];rfl
theorem DV(b:zV t=true)(a:yt t vs=false):jq vs t=vs++[t]:=by simp[jq,b,a]
theorem AG(a:zV t=false):jq vs t=vs:=by simp[jq,a]
theorem oS(a:yt t vs=true):jq vs t=vs:=by simp[jq,a]
theorem Ql(f w:World)(d:Nat)(vs args:List ByteArray)(neg:Bool)(s:ByteArray)(Z:Value)(S:Below f.heap.size f w)(W:Pg lo f Z args)(N:VA f.heap.size w d vs)(H:f.heap.size<=d)(hl:vs.length+args.length<=1000):
  Calls prog 182 #[.pointer (some ⟨d,0,none⟩),.agg #[.bool neg,.string s,Z]] w fun e o=>e=.returned (.tuple #[])/\VA f.heap.size o d (xp vs args)/\Below f.heap.size f o/\fy d w o:=by
 obtain⟨i0,hi,K,G,J⟩:=info_parts O4;obtain⟨ao,L,rfl⟩:=W.qw;have U:=S.size;go_enter func182,ntmps182;go_wp2;go_loopw [9] (fun i wr=>∃k:Nat,k<=args.length/\i=.int .i64 k/\VA f.heap.size wr d (xp vs (args.take k))/\Below f.heap.size f wr/\fy d w wr) (fun i _=>args.length-(intOf i).toNat)
 case atStart=>
  have R:=(zo w.heap.size w).alloc (zh _) (.cells #[.bool neg,.string s,.slice ao args.length L] 90);exact⟨0,zv _,rfl,N.below R,Pc S R,fy.of R⟩
 case round=>
  obtain⟨k,hk,rfl,p,h,q⟩:=hrel;by_cases y:k<args.length
  ·obtain⟨g,rfl,hg,aa⟩:=(W.below h).cell k y;have z:=Dg vs args k y;have A:=mA (args.take k) vs;have x:(args.take k).length=k:=by simp;omega
   rw[x] at A;clear x;generalize args[k]=t at *;generalize xp vs (args.take k)=n at *;have v:=OY z;clear z;cases hT:zV t with
   |false=>
    have r:xp vs (args.take (k+1))=n:=by rw[v.out,AG hT]
    have C:=OY r;clear r v;go_wp2_with (go_at_call 156;refine(fO _ _).mono ?_;rintro e o ⟨rfl,rfl⟩)
    go_roundw
    case rel=>exact⟨k+1,by omega,by go_num,by rw[C.out];exact p,h,q⟩
    case measure=>simp[intOf];omega
   |true=>
    obtain⟨nv,j,a⟩:=p;obtain⟨ab,Y,rfl⟩:=zq a;obtain⟨hc,hf⟩:=j.rules;cases X:yt t n with
    |true=>
     have r:xp vs (args.take (k+1))=n:=by rw[v.out,oS X]
     have C:=OY r;clear r v;go_wp2_with (first|(go_at_call 156;refine(fO _ _).mono ?_;rintro e o ⟨rfl,rfl⟩)|(go_at_call 183;refine(sS _ d _ n t j a (by omega)).mono ?_;rintro e o ⟨rfl,rfl⟩))
     go_roundw
     case rel=>exact⟨k+1,by omega,by go_num,by rw[C.out];exact⟨_,j,a⟩,h,q⟩
     case measure=>simp[intOf];omega
    |false=>
     have r:xp vs (args.take (k+1))=n++[t]:=by rw[v.out,DV hT X]
     have C:=OY r;clear r v;go_wp2_with (first|(go_at_call 156;refine(fO _ _).mono ?_;rintro e o ⟨rfl,rfl⟩)|(go_at_call 183;refine(sS _ d _ n t j a (by omega)).mono ?_;rintro e o ⟨rfl,rfl⟩)|(at_builtin;refine jY _ _ _ _ rfl (.tmp 25) (.tmp 27) 30 rfl f.heap.size 9 i0 _ 1 16 underlying30 hi K G J rfl (by decide) _ _ _ rfl a (zo _ _) _ _ rfl (by simp) rfl (by simp[Value.oneCell']) (by omega) (by omega) h.size ?_;intro v' I B O P M E F;clear P M;obtain⟨u,l,rfl⟩:=zq B;have m:=OZ.push a (by decide) j E;obtain⟨ac,ad⟩:=m.rules))
     have Q:fy d o (I.setCell ⟨d,0,none⟩ (.slice u (n.length+1) l)):=⟨by simp[World.setCell];exact F,fun b c T h1 h2 h3=>(OZ.push a (Ne.symm h2) h3 E).set_ne h1 _ _⟩;have D:VA f.heap.size (I.setCell ⟨d,0,none⟩ (.slice u (n.length+1) l)) d (n++[t]):=⟨_,m.set 0 _,by
      have:=xQ B ((Pm.refl d I).setCell 0 (.slice u (n.length+1) l)) m (by decide);simpa using this⟩
     go_roundw
     case rel=>exact⟨k+1,by omega,by go_num,by rw[C.out];exact D,(h.trans O).setCell H _,q.trans Q⟩
     case measure=>simp[intOf];omega
  ·have V:args.take k=args:=xk (by omega);rw[V] at p;clear V;go_wp2;go_end0
   exact⟨rfl,p,h,q⟩
end
section
variable {lo:Nat}
theorem PB.cell{w:World}{j:Option Addr}{n cap:Nat}{c:List zj}(h:PB lo w (.slice j n cap) c)(k:Nat)(s:k<c.length):∃g b a,j=some ⟨g,0,none⟩/\g<w.heap.size ∧
  w.cell? ⟨g,k*3,none⟩=some (.bool c[k].neg)/\w.cell? ⟨g,k*3+1,none⟩=some (.string c[k].pred)/\w.cell? ⟨g,k*3+2,none⟩=some (.slice b c[k].args.length a)/\Pg lo w (.slice b c[k].args.length a) c[k].args:=by
 obtain⟨t,m,r⟩:=h;obtain⟨g,f,e,_,p,d⟩:=y7 m (by omega);simp at e;obtain⟨u,q,o,l,i⟩:=r.at k c[k] (by simp[s]);obtain⟨b,a,rfl⟩:=i.qw;exact⟨g,b,a,e.1,p,d _ _ q,d _ _ o,d _ _ l,i⟩
def kt(vs:List ByteArray)(l:zj):List ByteArray:=xp vs l.args
def vx(vs:List ByteArray)(l:zj):List ByteArray:=if l.neg then vs else xp vs l.args
def xU(c:zc):List ByteArray:=c.body.foldl kt (xp [] c.head.args)
def zy(c:zc):List ByteArray:=c.body.foldl vx []
def xi(a:List zj):Nat:=a.foldr (fun l n=>l.args.length+n) 0
theorem pq(b:List zj):∀k,k<b.length->xi (b.take k)+(b[k]?.map (·.args.length)).getD 0<=xi b:=by
 induction b with
 |nil=>intro k h;simp at h
 |cons a b c=>
  intro k h;cases k with
  |zero=>simp[xi]
  |succ k=>have:=c k (by simpa using h);simp[xi] at this ⊢;omega
theorem Jt(c:List zj)(a:zj):xi (c++[a])=xi c+a.args.length:=by
 induction c with
 |nil=>simp[xi]
 |cons b c d=>simp[xi] at d ⊢;omega
theorem DN(b:List zj):∀vs:List ByteArray,(b.foldl kt vs).length<=vs.length+xi b:=by
 induction b with
 |nil=>intro vs;simp[xi]
 |cons a b c=>intro vs;have:=c (kt vs a);have:=mA a.args vs;simp[xi,kt] at *;omega
theorem tG(b:List zj):∀vs:List ByteArray,(b.foldl vx vs).length<=vs.length+xi b:=by
 induction b with
 |nil=>intro vs;simp[xi]
 |cons a b c=>
  intro vs;have e:=c (vx vs a);have d:=mA a.args vs;have f:(vx vs a).length<=vs.length+a.args.length:=by unfold vx;split<;>omega
  simp[xi] at *;omega
theorem KO(w:World)(c:zc)(V N:Value)(R:Pg lo w V c.head.args)(W:PB lo w N c.body)(hl:c.head.args.length+xi c.body<=1000)(Y:c.body.length<=1000):
  Calls prog 145 #[.agg #[.bool c.head.neg,.string c.head.pred,V,N]] w fun e P=>∃J,e=.returned (.agg #[J])/\P.ownsRow w.heap.size 9 1 J (xU c).length ((xU c).map Value.string)/\Below w.heap.size w P:=by
 obtain⟨r,d,rfl⟩:=R.qw;obtain⟨h,b,rfl⟩:=W.qw;have L:Below w.heap.size w (((w.alloc (.cells #[.bool c.head.neg,.string c.head.pred,.slice r c.head.args.length d,.slice h c.body.length b] 171)).alloc (.cells #[.slice none 0 0] 246)).alloc (.cells #[.slice none 0 0] 246)):=(by go_grown);have E:VA w.heap.size (((w.alloc (.cells #[.bool c.head.neg,.string c.head.pred,.slice r c.head.args.length d,.slice h c.body.length b] 171)).alloc (.cells #[.slice none 0 0] 246)).alloc (.cells #[.slice none 0 0] 246)) (w.heap.size+2) []:=⟨_,by have:=OZ.new ((w.alloc (.cells #[.bool c.head.neg,.string c.head.pred,.slice r c.head.args.length d,.slice h c.body.length b] 171)).alloc (.cells #[.slice none 0 0] 246)) #[.slice none 0 0] 246;simpa using this,yK _ _ _ _⟩;have s:OZ (((w.alloc (.cells #[.bool c.head.neg,.string c.head.pred,.slice r c.head.args.length d,.slice h c.body.length b] 171)).alloc (.cells #[.slice none 0 0] 246)).alloc (.cells #[.slice none 0 0] 246)) (w.heap.size+1) #[.slice none 0 0] 246:=by have:=(OZ.new (w.alloc (.cells #[.bool c.head.neg,.string c.head.pred,.slice r c.head.args.length d,.slice h c.body.length b] 171)) #[.slice none 0 0] 246).below ((zo _ _).alloc (zh _) (.cells #[.slice none 0 0] 246));simpa using this
 have D:OZ (((w.alloc (.cells #[.bool c.head.neg,.string c.head.pred,.slice r c.head.args.length d,.slice h c.body.length b] 171)).alloc (.cells #[.slice none 0 0] 246)).alloc (.cells #[.slice none 0 0] 246)) w.heap.size #[.bool c.head.neg,.string c.head.pred,.slice r c.head.args.length d,.slice h c.body.length b] 171:=((OZ.new w _ _).below zO).below zO;go_enter func145,ntmps145;go_wp2_with (first|(go_at_call 182;refine(Ql w _ (w.heap.size+2) [] c.head.args _ _ _ (by exact L) R (by exact E) (by omega) (by simp;omega)).mono ?_;rintro e w1 ⟨rfl,j,t,n⟩;have f:=n.box _ _ _ (by omega) (by decide) s;have B:=n.box _ _ _ (by omega) (by decide) D;obtain⟨aa,af,Q⟩:=B.boxed))
 go_loopw [12] (fun i wr=>∃k:Nat,k<=c.body.length/\i=.int .i64 k/\VA w.heap.size wr (w.heap.size+2) ((c.body.take k).foldl kt (xp [] c.head.args))/\Below w.heap.size w wr/\OZ wr (w.heap.size+1) #[.slice none 0 0] 246) (fun i _=>c.body.length-(intOf i).toNat)
 case atStart=>exact⟨0,zv _,rfl,j,t,f⟩
 case round=>
  obtain⟨k,hk,rfl,x,o,u⟩:=hrel;have U:=o.size;by_cases l:k<c.body.length
  ·obtain⟨g,ab,T,rfl,M,G,z,m,I⟩:=W.cell k l;have X:=zl o M G;have ag:=zl o M z;have ae:=zl o M m;have ac:g<wr.heap.size:=by omega
   have S:=DN (c.body.take k) (xp [] c.head.args);have F:=pq c.body k l;have H:=mA c.head.args [];have y:(c.body.take (k+1)).foldl kt (xp [] c.head.args)=kt ((c.body.take k).foldl kt (xp [] c.head.args)) c.body[k]:=by rw[yM l,ju];rfl
   rw[yq l] at F;simp only[jZ,uo] at F;clear G z m;generalize c.body[k]=a at *;generalize (c.body.take k).foldl kt (xp [] c.head.args)=vk at *;have HS:=OY y;clear y;go_wp2_with (first|(go_at_call 182;refine(Ql w _ (w.heap.size+2) vk a.args _ _ _ (by exact(by go_grown)) I (by exact x.below (by go_grown)) (by omega) (by simp at *;omega)).mono ?_;rintro e w1 ⟨rfl,j,t,n⟩;have f:=n.box _ _ _ (by omega) (by decide) (u.below (by go_grown))))
   go_roundw
   case rel=>exact⟨k+1,by omega,by go_num,by rw[HS.out];exact j,t,f⟩
   case measure=>simp[intOf];omega
  ·have O:c.body.take k=c.body:=xk (by omega);rw[O] at x;obtain⟨J,A,q⟩:=x;obtain⟨C,p,rfl⟩:=zq q;obtain⟨hc,hf⟩:=A.rules;obtain⟨m,ad⟩:=u.rules;have Z:=A.lt;clear O;go_wp2;have K:=xQ q ((Pm.refl (w.heap.size+1) wr).setCell 0 (.slice C (c.body.foldl kt (xp [] c.head.args)).length p)) u (by decide);exact zJ (v:=.agg #[.slice C (c.body.foldl kt (xp [] c.head.args)).length p]) (by simp[results,results145,go_sem,m]) rfl ⟨_,rfl,K,(by go_grown)⟩
theorem oy(w:World)(c:zc)(X Q:Value)(hs:Pg lo w X c.head.args)(Y:PB lo w Q c.body)(hl:c.head.args.length+xi c.body<=1000)(Z:c.body.length<=1000):
  Calls prog 148 #[.agg #[.bool c.head.neg,.string c.head.pred,X,Q]] w fun e S=>∃I,e=.returned (.agg #[I])/\S.ownsRow w.heap.size 9 1 I (zy c).length ((zy c).map Value.string)/\Below w.heap.size w S:=by
 obtain⟨q,d,rfl⟩:=hs.qw;obtain⟨f,b,rfl⟩:=Y.qw;have O:Below w.heap.size w (((w.alloc (.cells #[.bool c.head.neg,.string c.head.pred,.slice q c.head.args.length d,.slice f c.body.length b] 171)).alloc (.cells #[.slice none 0 0] 246)).alloc (.cells #[.slice none 0 0] 246)):=(by go_grown);have C:VA w.heap.size (((w.alloc (.cells #[.bool c.head.neg,.string c.head.pred,.slice q c.head.args.length d,.slice f c.body.length b] 171)).alloc (.cells #[.slice none 0 0] 246)).alloc (.cells #[.slice none 0 0] 246)) (w.heap.size+2) []:=⟨_,by have:=OZ.new ((w.alloc (.cells #[.bool c.head.neg,.string c.head.pred,.slice q c.head.args.length d,.slice f c.body.length b] 171)).alloc (.cells #[.slice none 0 0] 246)) #[.slice none 0 0] 246;simpa using this,yK _ _ _ _⟩;have r:OZ (((w.alloc (.cells #[.bool c.head.neg,.string c.head.pred,.slice q c.head.args.length d,.slice f c.body.length b] 171)).alloc (.cells #[.slice none 0 0] 246)).alloc (.cells #[.slice none 0 0] 246)) (w.heap.size+1) #[.slice none 0 0] 246:=by have:=(OZ.new (w.alloc (.cells #[.bool c.head.neg,.string c.head.pred,.slice q c.head.args.length d,.slice f c.body.length b] 171)) #[.slice none 0 0] 246).below ((zo _ _).alloc (zh _) (.cells #[.slice none 0 0] 246));simpa using this
 have W:OZ (((w.alloc (.cells #[.bool c.head.neg,.string c.head.pred,.slice q c.head.args.length d,.slice f c.body.length b] 171)).alloc (.cells #[.slice none 0 0] 246)).alloc (.cells #[.slice none 0 0] 246)) w.heap.size #[.bool c.head.neg,.string c.head.pred,.slice q c.head.args.length d,.slice f c.body.length b] 171:=((OZ.new w _ _).below zO).below zO;go_enter func148,ntmps148;go_wp2;go_loopw [9] (fun i wr=>∃k:Nat,k<=c.body.length/\i=.int .i64 k/\VA w.heap.size wr (w.heap.size+2) ((c.body.take k).foldl vx [])/\Below w.heap.size w wr/\OZ wr (w.heap.size+1) #[.slice none 0 0] 246) (fun i _=>c.body.length-(intOf i).toNat)
 case atStart=>exact⟨0,zv _,rfl,C,O,r⟩
 case round=>
  obtain⟨k,hk,rfl,m,n,l⟩:=hrel;have V:=n.size;by_cases h:k<c.body.length
  ·obtain⟨g,ab,U,rfl,P,E,z,j,H⟩:=Y.cell k h;have u:=zl n P E;have af:=zl n P z;have ae:=zl n P j;have ac:g<wr.heap.size:=by omega
   have T:=tG (c.body.take k) [];have D:=pq c.body k h;have G:True:=trivial;have x:(c.body.take (k+1)).foldl vx []=vx ((c.body.take k).foldl vx []) c.body[k]:=by rw[yM h,ju];rfl
   rw[yq h] at D;simp only[jZ,uo] at D;clear E z j;generalize c.body[k]=a at *;generalize (c.body.take k).foldl vx []=K at *;have F:=OY x;clear x;cases t:a.neg with
   |true=>
    rw[t] at u;have M:Hid ((c.body.take (k+1)).foldl vx []=K):=by rw[Hid,F.out,vx,t,zb rfl]
    clear F t;go_wp2;go_roundw
    case rel=>exact⟨k+1,by omega,by go_num,by rw[M.out];exact m.below (by go_grown),(by go_grown),l.below (by go_grown)⟩
    case measure=>simp[intOf];omega
   |false=>
    rw[t] at u;have M:Hid ((c.body.take (k+1)).foldl vx []=xp K a.args):=by rw[Hid,F.out,vx,t];rfl
    clear F t;go_wp2_with (first|(go_at_call 182;refine(Ql w _ (w.heap.size+2) K a.args _ _ _ (by exact(by go_grown)) H (by exact m.below (by go_grown)) (by omega) (by simp at *;omega)).mono ?_;rintro e w1 ⟨rfl,y,J,N⟩;have s:=N.box _ _ _ (by omega) (by decide) (l.below (by go_grown))))
    go_roundw
    case rel=>exact⟨k+1,by omega,by go_num,by rw[M.out];exact y,J,s⟩
    case measure=>simp[intOf];omega
  ·have R:c.body.take k=c.body:=xk (by omega);rw[R] at m;obtain⟨I,A,p⟩:=m;obtain⟨B,o,rfl⟩:=zq p;obtain⟨hc,hf⟩:=A.rules;obtain⟨j,ad⟩:=l.rules;have aa:=A.lt;clear R;go_wp2;have L:=xQ p ((Pm.refl (w.heap.size+1) wr).setCell 0 (.slice B (c.body.foldl vx []).length o)) l (by decide);exact zJ (v:=.agg #[.slice B (c.body.foldl vx []).length o]) (by simp[results,results148,go_sem,j]) rfl ⟨_,rfl,L,(by go_grown)⟩
theorem Q4(w:World)(b:Nat)(c:Value)(vs:List ByteArray)(a:OZ w b #[c] 246)(f:Pg lo w c vs):
  Calls prog 146 #[.pointer (some ⟨b,0,none⟩)] w fun e d=>e=.returned (.int .i64 vs.length)/\d=w:=by
 obtain⟨i,j⟩:=a.rules;obtain⟨h,g,rfl⟩:=f.qw;go_enter func146,ntmps146;go_wp2;go_ret;exact⟨rfl,rfl⟩
def qn(vs args:List ByteArray):Bool:=args.all fun t=>!zV t||yt t vs
theorem es{α:Type}(l:List α)(p:α->Bool)(k:Nat)(a:k<l.length):(l.drop k).all p=(p l[k]&&(l.drop (k+1)).all p):=by rw[xg a,List.all_cons]
theorem ip{α:Type}(l:List α)(p:α->Bool)(k:Nat)(a:k<l.length):(l.drop k).any p=(p l[k]||(l.drop (k+1)).any p):=by rw[xg a,List.any_cons]
theorem tW(w:World)(m:Nat)(r:Value)(vs args:List ByteArray)(neg:Bool)(c:ByteArray)(y:Value)(l:OZ w m #[r] 246)(D:Pg lo w r vs){p:Nat}(s:Pg p w y args)(u:vs.length<=1000)(C:args.length<=1000):
  Calls prog 149 #[.pointer (some ⟨m,0,none⟩),.agg #[.bool neg,.string c,y]] w fun e f=>e=.returned (.bool (qn vs args))/\Below w.heap.size w f:=by
 obtain⟨B,o,rfl⟩:=s.qw;have b:=(zo w.heap.size w).alloc (zh _) (.cells #[.bool neg,.string c,.slice B args.length o] 90);have a:=l.below b;have j:=D.below b;go_enter func149,ntmps149;go_wp2;go_loop [10] (fun i=>∃k:Nat,k<=args.length/\i=.int .i64 k/\Hid (qn vs args=(args.drop k).all fun t=>!zV t||yt t vs)) (fun i=>args.length-(intOf i).toNat)
 case atStart=>exact⟨0,zv _,rfl,rfl⟩
 case round=>
  obtain⟨k,E,rfl,H⟩:=hrel;by_cases h:k<args.length
  ·obtain⟨g,rfl,F,A⟩:=s.cell k h;have n:=es args (fun t=>!zV t||yt t vs) k h;generalize args[k]=x at *;have q:Hid (qn vs args=((!zV x||yt x vs)&&(args.drop (k+1)).all fun t=>!zV t||yt t vs)):=by rw[Hid,H.out,n]
   cases z:zV x with
   |false=>
    have d:Hid (qn vs args=(args.drop (k+1)).all fun t=>!zV t||yt t vs):=by rw[Hid,q.out,z];rfl
    go_wp2_with (first|(go_at_call 156;refine(fO _ _).mono ?_;rintro e f ⟨rfl,rfl⟩))
    go_round
    case rel=>exact⟨k+1,by omega,by go_num,d⟩
    case measure=>simp[intOf];omega
   |true=>
    cases v:yt x vs with
    |true=>
     have d:Hid (qn vs args=(args.drop (k+1)).all fun t=>!zV t||yt t vs):=by rw[Hid,q.out,v];simp
     go_wp2_with (first|(go_at_call 156;refine(fO _ _).mono ?_;rintro e f ⟨rfl,rfl⟩)|(go_at_call 183;refine(sS _ m _ vs x a j u).mono ?_;rintro e f ⟨rfl,rfl⟩))
     go_round
     case rel=>exact⟨k+1,by omega,by go_num,d⟩
     case measure=>simp[intOf];omega
    |false=>
     have d:Hid (qn vs args=false):=by rw[Hid,q.out,v,z];rfl
     go_wp2_with (first|(go_at_call 156;refine(fO _ _).mono ?_;rintro e f ⟨rfl,rfl⟩)|(go_at_call 183;refine(sS _ m _ vs x a j u).mono ?_;rintro e f ⟨rfl,rfl⟩))
     go_ret;exact⟨by rw[d.out];rfl,b⟩
  ·have d:Hid (qn vs args=true):=by rw[Hid,H.out,ui (by omega)];rfl
   go_wp2;go_ret;exact⟨by rw[d.out];rfl,b⟩
def yG(c:zc):Bool:=decide (3<c.head.args.length)||decide (6<c.body.length)||c.body.any (fun l=>decide (3<l.args.length))||decide (5<(xU c).length)
def xe(c:zc):Bool:=qn (zy c) c.head.args&&c.body.all fun l=>!l.neg||qn (zy c) l.args
theorem Az(w:World)(c:zc)(I x:Value)(N:Pg lo w I c.head.args)(J:PB lo w x c.body)(Z:c.head.args.length+xi c.body<=1000)(z:c.body.length<=1000):
  Calls prog 101 #[.agg #[.bool c.head.neg,.string c.head.pred,I,x]] w fun e X=>e=.returned (.bool (yG c))/\Below w.heap.size w X:=by
 have d:=fun W D L=>KO (lo:=lo) W c I x D L Z z;obtain⟨U,C,rfl⟩:=N.qw;obtain⟨G,s,rfl⟩:=J.qw;have p:=OY d;clear d;by_cases f:3<c.head.args.length∨6<c.body.length
 ·have j:Hid (yG c=true):=by unfold Hid yG;rcases f with f|f<;>simp[f]
  go_enter func101,ntmps101;rcases f with f|f
  ·go_wp2;go_ret;exact⟨by rw[j.out];rfl,(by go_grown)⟩
  ·by_cases Q:3<c.head.args.length
   all_goals
    go_wp2;go_ret;exact⟨by rw[j.out];rfl,(by go_grown)⟩
 ·have Q:¬3<c.head.args.length:=by omega
  have h6:¬6<c.body.length:=by omega
  have j:Hid (yG c=(c.body.any (fun l=>decide (3<l.args.length))||decide (5<(xU c).length))):=by unfold Hid yG;simp[Q,h6]
  clear f;go_enter func101,ntmps101;go_wp2;go_loopw [20] (fun i wr=>∃k:Nat,k<=c.body.length/\i=.int .i64 k/\Below w.heap.size w wr/\OZ wr w.heap.size #[.bool c.head.neg,.string c.head.pred,.slice U c.head.args.length C,.slice G c.body.length s] 171/\Hid (yG c=((c.body.drop k).any (fun l=>decide (3<l.args.length))||decide (5<(xU c).length)))) (fun i _=>c.body.length-(intOf i).toNat)
  case atStart=>exact⟨0,zv _,rfl,(by go_grown),OZ.new _ _ _,j⟩
  case round=>
   obtain⟨k,hk,rfl,b,q,H⟩:=hrel;have P:=b.size;by_cases m:k<c.body.length
   ·obtain⟨g,Y,O,rfl,K,u,o,t,A⟩:=J.cell k m;have T:=zl b K u;have ad:=zl b K o;have ac:=zl b K t;have aa:g<wr.heap.size:=by omega
    have n:=ip c.body (fun l=>decide (3<l.args.length)) k m;clear u o t A;generalize c.body[k]=a at *;have v:Hid (yG c=(decide (3<a.args.length)||(c.body.drop (k+1)).any (fun l=>decide (3<l.args.length))||decide (5<(xU c).length))):=by rw[Hid,H.out,n]
    clear n H j;by_cases M:3<a.args.length
    ·have r:Hid (yG c=true):=by rw[Hid,v.out];simp[M]
     clear v;go_wp2;go_ret;exact⟨by rw[r.out];rfl,(by go_grown)⟩
    ·have r:Hid (yG c=((c.body.drop (k+1)).any (fun l=>decide (3<l.args.length))||decide (5<(xU c).length))):=by rw[Hid,v.out];simp[M]
     clear v;go_wp2;go_roundw
     case rel=>exact⟨k+1,by omega,by go_num,(by go_grown),q.below (by go_grown),r⟩
     case measure=>simp[intOf];omega
   ·have r:Hid (yG c=decide (5<(xU c).length)):=by rw[Hid,H.out,ui (by omega)];simp
    have E:=N.below b;have y:=J.below b;obtain⟨hc,hf,S⟩:=q.boxed;clear H j;go_wp2_with (first|(go_at_call 145;refine(p.out _ E y).mono ?_;rintro e w1 ⟨nv,rfl,h,B⟩;obtain⟨ab,R,rfl⟩:=zq h;have F:=Pc b B;have V:=F.size)|(go_at_call 146;refine(Q4 _ _ _ (xU c) (by exact OZ.new _ _ _) (by exact zE h (by go_grown))).mono ?_;rintro e w2 ⟨rfl,rfl⟩))
    go_ret;exact⟨by rw[r.out];simp;omega,(by go_grown)⟩
theorem o6(w:World)(c:zc)(va Y:Value)(P:Pg lo w va c.head.args)(V:PB lo w Y c.body)(hl:c.head.args.length+xi c.body<=1000)(aa:c.body.length<=1000):
  Calls prog 103 #[.agg #[.bool c.head.neg,.string c.head.pred,va,Y]] w fun e w'=>e=.returned (.bool (xe c))/\Below w.heap.size w w':=by
 have x:=fun W ac ae=>oy (lo:=lo) W c va Y ac ae hl aa;obtain⟨ao,aj,rfl⟩:=P.qw;obtain⟨ap,af,rfl⟩:=V.qw;have v:=OY x;clear x;have q:(zy c).length<=1000:=by have:=tG c.body [];unfold zy;simp at this;omega
 have m:∀k (U:k<c.body.length),c.body[k].args.length<=1000:=fun k U=>by
  have:=pq c.body k U;rw[yq U] at this;simp at this;omega
 have I:=OY m;clear m;cases hH:qn (zy c) c.head.args with
 |false=>
  have M:Hid (xe c=false):=by unfold Hid xe;simp[hH]
  go_enter func103,ntmps103;go_wp2_with (first|(go_at_call 148;refine(v.out _ (by exact P.below (by go_grown)) (by exact V.below (by go_grown))).mono ?_;rintro e w1 ⟨nv,rfl,b,o⟩;obtain⟨D,p,rfl⟩:=zq b;have f:=Pc zO o;have B:=f.size;have j:=(OZ.new w _ _).below o;obtain⟨ab,X,Q⟩:=j.boxed)|(go_at_call 149;refine(tW _ _ _ (zy c) c.head.args _ _ _ (by exact OZ.new _ _ _) (by exact zE b (by go_grown)) (by exact(P.below f).below (by go_grown)) q (by omega)).mono ?_;rintro e w2 ⟨rfl,h⟩;have E:=Pc (f.alloc B _) h))
  go_ret;exact⟨by rw[M.out];rfl,E⟩
 |true=>
  have M:Hid (xe c=c.body.all fun l=>!l.neg||qn (zy c) l.args):=by unfold Hid xe;simp[hH]
  go_enter func103,ntmps103;go_wp2_with (first|(go_at_call 148;refine(v.out _ (by exact P.below (by go_grown)) (by exact V.below (by go_grown))).mono ?_;rintro e w1 ⟨nv,rfl,b,o⟩;obtain⟨D,p,rfl⟩:=zq b;have f:=Pc zO o;have B:=f.size;have j:=(OZ.new w _ _).below o;obtain⟨ab,X,Q⟩:=j.boxed)|(go_at_call 149;refine(tW _ _ _ (zy c) c.head.args _ _ _ (by exact OZ.new _ _ _) (by exact zE b (by go_grown)) (by exact(P.below f).below (by go_grown)) q (by omega)).mono ?_;rintro e w2 ⟨rfl,h⟩;have E:=Pc (f.alloc B _) h;have ad:=h.size;simp only[World.size_alloc] at ad;have R:=(j.below zO).below h;obtain⟨am,al,Z⟩:=R.boxed;have N:=(OZ.new w1 _ _).below h;have F:=zE (zE b zO) h))
  go_loopw [15] (fun i wr=>∃k:Nat,k<=c.body.length/\i=.int .i64 k/\Below w.heap.size w wr/\OZ wr w1.heap.size #[.slice D (zy c).length p] 246/\Pg 0 wr (.slice D (zy c).length p) (zy c)/\Hid (xe c=(c.body.drop k).all fun l=>!l.neg||qn (zy c) l.args)) (fun i _=>c.body.length-(intOf i).toNat)
  case atStart=>exact⟨0,zv _,rfl,E,N,yr F (zv _),M⟩
  case round=>
   obtain⟨k,U,rfl,d,r,s,H⟩:=hrel;have ah:=d.size;by_cases z:k<c.body.length
   ·obtain⟨g,ai,ag,rfl,hg,T,y,u,O⟩:=V.cell k z;have K:=zl d hg T;have aq:=zl d hg y;have an:=zl d hg u;have ak:g<wr.heap.size:=by omega
    have L:=es c.body (fun l=>!l.neg||qn (zy c) l.args) k z;have t:=O.below d;have S:=I.out k z;clear T y u O;generalize c.body[k]=a at *;have J:Hid (xe c=((!a.neg||qn (zy c) a.args)&&(c.body.drop (k+1)).all fun l=>!l.neg||qn (zy c) l.args)):=by rw[Hid,H.out,L]
    clear L H M;cases A:a.neg with
    |false=>
     have C:Hid (xe c=(c.body.drop (k+1)).all fun l=>!l.neg||qn (zy c) l.args):=by rw[Hid,J.out,A];rfl
     rw[A] at K;clear J A;go_wp2;go_roundw
     case rel=>exact⟨k+1,by omega,by go_num,(by go_grown),r.below (by go_grown),s.below (by go_grown),C⟩
     case measure=>simp[intOf];omega
    |true=>
     rw[A] at K;cases hC:qn (zy c) a.args with
     |true=>
      have C:Hid (xe c=(c.body.drop (k+1)).all fun l=>!l.neg||qn (zy c) l.args):=by rw[Hid,J.out,hC];simp
      clear J A;go_wp2_with (first|(go_at_call 149;refine(tW _ _ _ (zy c) a.args _ _ _ (by exact r.below (by go_grown)) (by exact s.below (by go_grown)) (by exact t.below (by go_grown)) q S).mono ?_;rintro e w3 ⟨rfl,G⟩;have n:=Pc ((zo wr.heap.size wr).alloc (zh _) _) G))
      go_roundw
      case rel=>exact⟨k+1,by omega,by go_num,Pc d n,r.below n,s.below n,C⟩
      case measure=>simp[intOf];omega
     |false=>
      have C:Hid (xe c=false):=by rw[Hid,J.out,hC,A];rfl
      clear J A;go_wp2_with (first|(go_at_call 149;refine(tW _ _ _ (zy c) a.args _ _ _ (by exact r.below (by go_grown)) (by exact s.below (by go_grown)) (by exact t.below (by go_grown)) q S).mono ?_;rintro e w3 ⟨rfl,G⟩;have n:=Pc ((zo wr.heap.size wr).alloc (zh _) _) G))
      go_ret;exact⟨by rw[C.out];rfl,Pc d n⟩
   ·have C:Hid (xe c=true):=by rw[Hid,H.out,ui (by omega)];rfl
    clear H M;go_wp2;go_ret;exact⟨by rw[C.out];rfl,d⟩
theorem PE.cell{T:TypeId}{w:World}{f:Option Addr}{n cap:Nat}{cs:List zc}(h:PE lo T w (.slice f n cap) cs)(k:Nat)(s:k<cs.length):∃g d a e b,f=some ⟨g,0,none⟩/\g<w.heap.size ∧
  w.cell? ⟨g,k*4,none⟩=some (.bool cs[k].head.neg)/\w.cell? ⟨g,k*4+1,none⟩=some (.string cs[k].head.pred)/\w.cell? ⟨g,k*4+2,none⟩=some (.slice d cs[k].head.args.length a) ∧
  w.cell? ⟨g,k*4+3,none⟩=some (.slice e cs[k].body.length b)/\Pg lo w (.slice d cs[k].head.args.length a) cs[k].head.args/\PB lo w (.slice e cs[k].body.length b) cs[k].body:=by
 obtain⟨y,o,r⟩:=h;obtain⟨g,m,j,_,u,c⟩:=y7 o (by omega);simp at j;obtain⟨z,x,v,p,t,q,l,i⟩:=r.at k cs[k] (by simp[s]);obtain⟨d,a,rfl⟩:=l.qw;obtain⟨e,b,rfl⟩:=i.qw;exact⟨g,d,a,e,b,j.1,u,c _ _ v,c _ _ p,c _ _ t,c _ _ q,l,i⟩
def vD(c:zc):Prop:=c.head.args.length+xi c.body<=1000/\c.body.length<=1000
theorem rf(w:World)(v:Value)(cs:List zc)(n:PE lo 171 w v cs)(A:∀c∈cs,vD c)(S:cs.length<=1000):
  Calls prog 61 #[v] w fun e J=>e=.returned (.bool (cs.any yG))/\Below w.heap.size w J:=by
 obtain⟨R,L,rfl⟩:=n.qw;have s:=OY A;go_enter func61,ntmps61;go_wp2;go_loopw [7] (fun i wr=>∃k:Nat,k<=cs.length/\i=.int .i64 k/\Below w.heap.size w wr/\Hid (cs.any yG=(cs.drop k).any yG)) (fun i _=>cs.length-(intOf i).toNat)
 case atStart=>exact⟨0,zv _,rfl,zo _ _,rfl⟩
 case round=>
  obtain⟨k,T,rfl,b,H⟩:=hrel;have E:=b.size;by_cases h:k<cs.length
  ·have r:=ip cs yG k h;obtain⟨g,K,D,M,F,rfl,q,B,t,z,y,x,u⟩:=n.cell k h;have I:=zl b q B;have Q:=zl b q t;have O:=zl b q z;have N:=zl b q y;have d:=x.below b;have f:=u.below b;obtain⟨o,p⟩:=s.out _ (zu h);generalize cs[k]=a at *;have G:Hid (cs.any yG=(yG a||(cs.drop (k+1)).any yG)):=by rw[Hid,H.out,r]
   cases C:yG a with
   |true=>
    have m:Hid (cs.any yG=true):=by rw[Hid,G.out,C];rfl
    go_wp2_with (first|(go_at_call 101;refine(Az _ a _ _ (by exact d.below (by go_grown)) (by exact f.below (by go_grown)) o p).mono ?_;rintro e P ⟨rfl,j⟩;have l:=Pc ((zo wr.heap.size wr).alloc (zh _) _) j))
    go_ret;exact⟨by rw[m.out];rfl,Pc b l⟩
   |false=>
    have m:Hid (cs.any yG=(cs.drop (k+1)).any yG):=by rw[Hid,G.out,C];rfl
    go_wp2_with (first|(go_at_call 101;refine(Az _ a _ _ (by exact d.below (by go_grown)) (by exact f.below (by go_grown)) o p).mono ?_;rintro e P ⟨rfl,j⟩;have l:=Pc ((zo wr.heap.size wr).alloc (zh _) _) j))
    go_roundw
    case rel=>exact⟨k+1,by omega,by go_num,Pc b l,m⟩
    case measure=>simp[intOf];omega
  ·have m:Hid (cs.any yG=false):=by rw[Hid,H.out,ui (by omega)];rfl
   go_wp2;go_ret;exact⟨by rw[m.out];rfl,b⟩
theorem wQ(w:World)(v:Value)(cs:List zc)(n:PE lo 171 w v cs)(A:∀c∈cs,vD c)(S:cs.length<=1000):
  Calls prog 63 #[v] w fun e J=>e=.returned (.bool (cs.all xe))/\Below w.heap.size w J:=by
 obtain⟨R,L,rfl⟩:=n.qw;have s:=OY A;go_enter func63,ntmps63;go_wp2;go_loopw [7] (fun i wr=>∃k:Nat,k<=cs.length/\i=.int .i64 k/\Below w.heap.size w wr/\Hid (cs.all xe=(cs.drop k).all xe)) (fun i _=>cs.length-(intOf i).toNat)
 case atStart=>exact⟨0,zv _,rfl,zo _ _,rfl⟩
 case round=>
  obtain⟨k,T,rfl,b,H⟩:=hrel;have E:=b.size;by_cases h:k<cs.length
  ·have r:=es cs xe k h;obtain⟨g,K,D,M,F,rfl,q,B,t,z,y,x,u⟩:=n.cell k h;have I:=zl b q B;have Q:=zl b q t;have O:=zl b q z;have N:=zl b q y;have d:=x.below b;have f:=u.below b;obtain⟨o,p⟩:=s.out _ (zu h);generalize cs[k]=a at *;have G:Hid (cs.all xe=(xe a&&(cs.drop (k+1)).all xe)):=by rw[Hid,H.out,r]
   cases C:xe a with
   |false=>
    have m:Hid (cs.all xe=false):=by rw[Hid,G.out,C];rfl
    go_wp2_with (first|(go_at_call 103;refine(o6 _ a _ _ (by exact d.below (by go_grown)) (by exact f.below (by go_grown)) o p).mono ?_;rintro e P ⟨rfl,j⟩;have l:=Pc ((zo wr.heap.size wr).alloc (zh _) _) j))
    go_ret;exact⟨by rw[m.out];rfl,Pc b l⟩
   |true=>
    have m:Hid (cs.all xe=(cs.drop (k+1)).all xe):=by rw[Hid,G.out,C];rfl
    go_wp2_with (first|(go_at_call 103;refine(o6 _ a _ _ (by exact d.below (by go_grown)) (by exact f.below (by go_grown)) o p).mono ?_;rintro e P ⟨rfl,j⟩;have l:=Pc ((zo wr.heap.size wr).alloc (zh _) _) j))
    go_roundw
    case rel=>exact⟨k+1,by omega,by go_num,Pc b l,m⟩
    case measure=>simp[intOf];omega
  ·have m:Hid (cs.all xe=true):=by rw[Hid,H.out,ui (by omega)];rfl
   go_wp2;go_ret;exact⟨by rw[m.out];rfl,b⟩
end
structure zg where
 name:ByteArray
 jf:Nat
 qh:Nat
def P5(a b:ByteArray):Bool:=Op.bytesLess a.toList b.toList
def zP:List zg->ByteArray->Nat
 |[],_=>0
 |e::r,n=>if P5 e.name n then zP r n+1 else 0
theorem eh:∀(t:List zg) (n:ByteArray),zP t n<=t.length
 |[],_=>zh _
 |e::r,n=>by have:=eh r n;unfold zP;split<;>simp<;>omega
theorem eI:∀(t:List zg) (n:ByteArray) (k:Nat),(∀j (b:j<t.length),j<k->P5 t[j].name n=true)->k<=t.length->zP t n=k+zP (t.drop k) n
 |[],n,k,_,a=>by simp at a;subst a;simp
 |e::r,n,0,_,_=>by simp
 |e::r,n,k+1,h,a=>by
  have c:=h 0 (by simp) (by omega);simp at c;have:=eI r n k (fun j b d=>by have:=h (j+1) (by simpa using b) (by omega);simpa using this) (by simpa using a);simp[zP,c];omega
theorem CV(t:List zg)(n:ByteArray)(k:Nat)(h:∀j (c:j<t.length),j<k->P5 t[j].name n=true)(a:k<t.length)(b:P5 t[k].name n=false):zP t n=k:=by
 rw[eI t n k h (by omega),xg a,zP,b];rfl
theorem Em(t:List zg)(n:ByteArray)(h:∀j (a:j<t.length),P5 t[j].name n=true):zP t n=t.length:=by
 rw[eI t n t.length (fun j a _=>h j a) (zh _)];simp[zP]
def xZ(t:List zg):List Value:=t.flatMap fun e=>[.string e.name,.int .i64 (e.jf:Int),.int .i64 (e.qh:Int)]
theorem eR(t:List zg):(xZ t).length=t.length*3:=by
 induction t with
 |nil=>rfl
 |cons a t b=>simp[xZ] at b ⊢;omega
theorem Cn:∀(t:List zg) (k:Nat) (a:k<t.length),(xZ t)[k*3]?=some (.string t[k].name)/\(xZ t)[k*3+1]?=some (.int .i64 (t[k].jf:Int))/\(xZ t)[k*3+2]?=some (.int .i64 (t[k].qh:Int))
 |[],k,a=>by simp at a
 |e::r,0,_=>by simp[xZ]
 |e::r,k+1,a=>by
  have:=Cn r k (by simpa using a);simp only[xZ,us] at this ⊢;rw[show(k+1)*3=k*3+1+1+1 from by omega,show k*3+1+1+1+1=k*3+1+1+1+1 from rfl,show k*3+1+1+1+2=k*3+2+1+1+1 from by omega];simpa using this
def TA(B:Nat)(w:World)(tb:Nat)(t:List zg):Prop:=∃a,OZ w tb #[a] 127/\w.ownsRow B 221 3 a t.length (xZ t)
theorem TA.below{B:Nat}{w b:World}{tb:Nat}{t:List zg}(h:TA B w tb t)(a:Below w.heap.size w b):TA B b tb t:=by
 obtain⟨d,e,c⟩:=h;exact⟨d,e.below a,zE c a⟩
theorem TA.view{B:Nat}{w:World}{tb:Nat}{t:List zg}(h:TA B w tb t):∃b a,OZ w tb #[.slice b t.length a] 127/\w.ownsRow B 221 3 (.slice b t.length a) t.length (xZ t):=by
 obtain⟨e,d,c⟩:=h;obtain⟨b,a,rfl⟩:=zq c;exact⟨b,a,d,c⟩
theorem kq{B:Nat}{w:World}{d:Option Addr}{n cap:Nat}{t:List zg}(h:w.ownsRow B 221 3 (.slice d n cap) t.length (xZ t))(k:Nat)(m:k<t.length):∃g,d=some ⟨g,0,none⟩/\g<w.heap.size/\B<=g ∧
  w.cell? ⟨g,k*3,none⟩=some (.string t[k].name)/\w.cell? ⟨g,k*3+1,none⟩=some (.int .i64 (t[k].jf:Int))/\w.cell? ⟨g,k*3+2,none⟩=some (.int .i64 (t[k].qh:Int)):=by
 obtain⟨g,c,b,e,j,a⟩:=y7 h (by omega);simp at b;obtain⟨l,i,f⟩:=Cn t k m;exact⟨g,b.1,j,e,a _ _ l,a _ _ i,a _ _ f⟩
theorem tC(B:Nat)(w:World)(tb:Nat)(t:List zg)(n:ByteArray)(h:TA B w tb t)(u:t.length<=1000):
  Calls prog 126 #[.pointer (some ⟨tb,0,none⟩),.string n] w fun e q=>e=.returned (.int .i64 (zP t n))/\q=w:=by
 obtain⟨r,p,l,d⟩:=h.view;obtain⟨v,x⟩:=l.rules;go_enter func126,ntmps126;go_wp2;go_loop [5] (fun i=>∃k:Nat,k<=t.length/\i=.int .i64 k/\Hid (∀j (a:j<t.length),j<k->P5 t[j].name n=true)) (fun i=>t.length-(intOf i).toNat)
 case atStart=>exact⟨0,zv _,rfl,fun j a h=>by omega⟩
 case round=>
  obtain⟨k,y,rfl,H⟩:=hrel;by_cases b:k<t.length
  ·obtain⟨g,rfl,s,_,o,_,_⟩:=kq d k b;cases f:P5 t[k].name n with
   |true=>
    have c:Hid (∀j (a:j<t.length),j<k+1->P5 t[j].name n=true):=fun j a h=>by
     rcases gA j k with m|m
     ·exact H.out j a m
     ·obtain rfl:j=k:=by omega
      exact f
    unfold P5 at f;go_wp2;go_round
    case rel=>exact⟨k+1,by omega,by go_num,c⟩
    case measure=>simp[intOf];omega
   |false=>
    have c:=OY (CV t n k H.out b f);unfold P5 at f;go_wp2;go_ret;exact⟨by rw[c.out];rfl,rfl⟩
  ·have c:Hid (zP t n=k):=by
    have:=Em t n (fun j a=>H.out j a (by omega));unfold Hid;omega
   go_wp2;go_ret;exact⟨by rw[c.out];rfl,rfl⟩
section
variable {xs:List Value}
theorem qt{w:World}{b:Nat}{e:TypeId}{a g n cap m:Nat}(h:w.ownsRow b e a (.slice (some ⟨g,0,none⟩) n cap) m xs)(o:Nat):w.frozen? ⟨g,o,none⟩=false:=by
 obtain⟨_,⟨c,_⟩|⟨j,d,f,c,_,i,_⟩⟩:=h
 ·cases c
 ·simp at c;obtain⟨rfl,_⟩:=c;unfold World.frozen?;rw[i];simp
theorem uK{w:World}{b:Nat}{e:TypeId}{a g n cap m:Nat}(h:w.ownsRow b e a (.slice (some ⟨g,0,none⟩) n cap) m xs)(j:Nat)(_:j<xs.length)(u:Value):
  (w.setCell ⟨g,j,none⟩ u).ownsRow b e a (.slice (some ⟨g,0,none⟩) n cap) m (xs.set j u):=by
 obtain⟨q,⟨c,_⟩|⟨s,f,d,c,p,o,l,k,r,i⟩⟩:=h
 ·cases c
 ·simp at c;obtain⟨rfl,rfl,rfl⟩:=c;refine⟨by simpa using q,ze ⟨g,cap,d.setIfInBounds j u,rfl,p,?_,l,k,by simpa using r,?_⟩⟩
  ·simp[World.setCell,Array.getElem?_modify,o]
  ·rw[←i];rw[Array.toList_setIfInBounds,List.take_set]
def zY(t:List zg)(n:ByteArray):Option zg:=match t[zP t n]? with
 |none=>none
 |some e=>if e.name=n then some e else none
theorem qI{t:List zg}{n:ByteArray}{e:zg}(h:zY t n=some e):∃b:zP t n<t.length,t[zP t n]=e/\e.name=n:=by
 unfold zY at h;split at h
 ·cases h
 ·rename_i c a;split at h<;>simp at h
  subst h;obtain⟨b,a⟩:=jG.1 a;exact⟨b,a,by assumption⟩
theorem rQ{t:List zg}{n:ByteArray}(h:zY t n=none):¬zP t n<t.length∨∃b:zP t n<t.length,t[zP t n].name≠n:=by
 unfold zY at h;split at h
 ·rename_i a;left;rw[List.getElem?_eq_none_iff] at a;omega
 ·rename_i e a;split at h<;>simp at h
  obtain⟨b,a⟩:=jG.1 a;right;exact⟨b,by rw[a];assumption⟩
theorem oC(B:Nat)(w:World)(tb:Nat)(t:List zg)(n:ByteArray)(h:TA B w tb t)(o:t.length<=1000)(j:zY t n=none):
  Calls prog 77 #[.pointer (some ⟨tb,0,none⟩),.string n] w fun e c=>e=.returned (.tuple #[.int .i64 0,.bool false])/\c=w:=by
 have i:=tC B w tb t n h o;obtain⟨q,m,d,b⟩:=h.view;obtain⟨s,u⟩:=d.rules;have a:=OY i;rcases rQ j with k|⟨k,f⟩
 ·clear j;go_enter func77,ntmps77;go_wp2_with (first|(go_at_call 126;refine a.out.mono ?_;rintro e c ⟨rfl,rfl⟩;clear a))
  go_ret2
  exact⟨rfl,rfl⟩
 ·obtain⟨g,rfl,r,_,l,_,_⟩:=kq b _ k;have p:=qz f;go_enter func77,ntmps77;go_wp2_with (first|(go_at_call 126;refine a.out.mono ?_;rintro e c ⟨rfl,rfl⟩;clear a))
  go_ret2
  exact⟨rfl,rfl⟩
theorem Ea(B:Nat)(w:World)(tb:Nat)(t:List zg)(n:ByteArray)(l:zg)(h:TA B w tb t)(p:t.length<=1000)(m:zY t n=some l):
  Calls prog 77 #[.pointer (some ⟨tb,0,none⟩),.string n] w fun e k=>e=.returned (.tuple #[.int .i64 (zP t n),.bool true])/\k=w:=by
 have j:=tC B w tb t n h p;obtain⟨s,o,d,b⟩:=h.view;obtain⟨v,u⟩:=d.rules;have a:=OY j;obtain⟨r,f,q⟩:=qI m;obtain⟨g,rfl,x,_,c,_,i⟩:=kq b _ r;rw[f] at c i;go_enter func77,ntmps77;go_wp2_with (first|(go_at_call 126;refine a.out.mono ?_;rintro e k ⟨rfl,rfl⟩;clear a))
 go_ret2
 exact⟨rfl,rfl⟩
theorem LO(B:Nat)(w:World)(tb:Nat)(t:List zg)(n:ByteArray)(h:TA B w tb t)(a:t.length<=1000)(c:zY t n=none):
  Calls prog 159 #[.pointer (some ⟨tb,0,none⟩),.string n] w fun e d=>e=.returned (.tuple #[.int .i64 0,.bool false])/\d=w:=by
 have b:=OY (oC B w tb t n h a c);clear h c a;go_enter func159,ntmps159;go_wp2_with (first|(go_at_call 77;refine b.out.mono ?_;rintro e d ⟨rfl,rfl⟩;clear b))
 go_ret2
 exact⟨rfl,rfl⟩
theorem oT(B:Nat)(w:World)(tb:Nat)(t:List zg)(n:ByteArray)(b:zg)(h:TA B w tb t)(m:t.length<=1000)(d:zY t n=some b):
  Calls prog 159 #[.pointer (some ⟨tb,0,none⟩),.string n] w fun e i=>e=.returned (.tuple #[.int .i64 b.qh,.bool true])/\i=w:=by
 have f:=OY (Ea B w tb t n b h m d);obtain⟨r,l,c,a⟩:=h.view;obtain⟨u,s⟩:=c.rules;obtain⟨q,k,p⟩:=qI d;obtain⟨g,rfl,v,_,j,_,o⟩:=kq a _ q;go_enter func159,ntmps159;go_wp2_with (first|(go_at_call 77;refine f.out.mono ?_;rintro e i ⟨rfl,rfl⟩;clear f))
 go_ret2
 exact⟨rfl,rfl⟩
theorem CJ:∀(t:List zg) (k:Nat) (e:zg) (d:k<t.length),t[k].name=e.name->t[k].jf=e.jf->(xZ t).set (k*3+2) (.int .i64 (e.qh:Int))=xZ (t.set k e)
 |[],k,_,d,_,_=>by simp at d
 |a::r,0,e,_,c,b=>by simp at c b;simp[xZ,c,b]
 |a::r,k+1,e,d,c,b=>by
  have:=CJ r k e (by simpa using d) (by simpa using c) (by simpa using b);simp only[xZ,us,p8] at this ⊢;rw[show(k+1)*3+2=k*3+2+1+1+1 from by omega];simpa using this
def xv(t:List zg)(n:ByteArray)(s:Nat):List zg×Bool:=match zY t n with
 |none=>(t,false)
 |some e=>if s<=e.qh then(t,false) else(t.set (zP t n) {e with qh:=s},true)
theorem LI(t:List zg)(n:ByteArray)(s:Nat):(xv t n s).1.length=t.length:=by
 unfold xv;split
 ·rfl
 ·split<;>simp
theorem Qe(B:Nat)(w:World)(tb:Nat)(t:List zg)(n:ByteArray)(s:Nat)(h:TA B w tb t)(y:t.length<=1000)(_:s<=3000000):
  Calls prog 151 #[.pointer (some ⟨tb,0,none⟩),.string n,.int .i64 s] w fun e j=>e=.returned (.bool (xv t n s).2)/\TA B j tb (xv t n s).1/\Below B w j:=by
 obtain⟨J,F,b,a⟩:=h.view;obtain⟨K,M⟩:=b.rules;have x:=OY h;cases f:zY t n with
 |none=>
  have l:Hid (xv t n s=(t,false)):=by unfold Hid xv;rw[f]
  have d:=OY (oC B w tb t n h y f);rw[l.out];go_enter func151,ntmps151;go_wp2_with (first|(go_at_call 77;refine d.out.mono ?_;rintro e j ⟨rfl,rfl⟩;clear d))
  go_ret;exact⟨rfl,x,zo _ _⟩
 |some p=>
  have d:=OY (Ea B w tb t n p h y f);obtain⟨z,o,D⟩:=qI f;obtain⟨g,rfl,N,v,C,_,G⟩:=kq a _ z;have H:=qt a;by_cases k:s<=p.qh
  ·have l:Hid (xv t n s=(t,false)):=by unfold Hid xv;rw[f];simp[k]
   rw[l.out];go_enter func151,ntmps151;go_wp2_with (first|(go_at_call 77;refine d.out.mono ?_;rintro e j ⟨rfl,rfl⟩;clear d))
   go_ret;exact⟨rfl,x,zo _ _⟩
  ·have l:Hid (xv t n s=(t.set (zP t n) {p with qh:=s},true)):=by unfold Hid xv;rw[f];simp[k]
   rw[l.out];have c:=uK a (zP t n*3+2) (by rw[eR];omega) (.int .i64 (s:Int));rw[CJ t (zP t n) {p with qh:=s} z (by rw[o]) (by rw[o])] at c;have i:tb≠g:=by
    intro u;subst u;obtain⟨_,⟨q,_⟩|⟨L,A,I,q,_,E,_⟩⟩:=a
    ·cases q
    ·simp at q;obtain⟨rfl,_⟩:=q;unfold OZ at b;rw[E] at b;simp at b
   have m:=b.set_ne i (zP t n*3+2) (.int .i64 (s:Int));have r:Hid (TA B (w.setCell ⟨g,zP t n*3+2,none⟩ (.int .i64 (s:Int))) tb (t.set (zP t n) {p with qh:=s})):=⟨_,m,by simpa using c⟩;go_enter func151,ntmps151;go_wp2_with (first|(go_at_call 77;refine d.out.mono ?_;rintro e j ⟨rfl,rfl⟩;clear d))
   go_ret;exact⟨rfl,r,(zo _ _).setCell v _⟩
end
section
variable {lo:Nat}
def jC(t:List zg)(l:zj):Nat:=match zY t l.pred with
 |none=>0
 |some e=>if l.neg then e.qh+1 else e.qh
def vV(t:List zg)(n:Nat)(l:zj):Nat:=if n<jC t l then jC t l else n
def qu(t:List zg)(c:zc):Nat:=c.body.foldl (vV t) 0
theorem oL{t:List zg}{M:Nat}(h:∀e∈t,e.qh<=M)(l:zj):jC t l<=M+1:=by
 unfold jC;split
 ·omega
 ·rename_i e b;obtain⟨c,a,_⟩:=qI b;have:=h e (by rw[←a];exact zu c);split<;>omega
theorem Du{t:List zg}{M:Nat}(h:∀e∈t,e.qh<=M):∀(a:List zj) (n:Nat),n<=M+1->a.foldl (vV t) n<=M+1
 |[],n,b=>b
 |l::a,n,b=>by
  refine Du h a _ ?_;unfold vV;have:=oL h l;split<;>omega
theorem Dj(B M:Nat)(w:World)(tb:Nat)(t:List zg)(c:zc)(O I:Value)(h:TA B w tb t)(D:t.length<=1000)(J:∀e∈t,e.qh<=M)(ab:M<=2000000)(V:Pg lo w O c.head.args)(Q:PB lo w I c.body)(S:c.body.length<=1000):
  Calls prog 150 #[.pointer (some ⟨tb,0,none⟩),.agg #[.bool c.head.neg,.string c.head.pred,O,I]] w fun e T=>e=.returned (.int .i64 (qu t c))/\Below w.heap.size w T:=by
 obtain⟨ao,W,rfl⟩:=V.qw;obtain⟨Z,K,rfl⟩:=Q.qw;have R:=OY J;clear J;go_enter func150,ntmps150;go_wp2;go_loopw [5,13] (fun n i wr=>∃k m:Nat,k<=c.body.length/\i=.int .i64 k/\n=.int .i64 m/\m<=M+1/\Below w.heap.size w wr/\Hid (m=(c.body.take k).foldl (vV t) 0)) (fun _ i _=>c.body.length-(intOf i).toNat)
 case atStart=>exact⟨0,0,zv _,rfl,rfl,zv _,(by go_grown),rfl⟩
 case round=>
  obtain⟨k,m,hk,rfl,rfl,F,d,H⟩:=hrel;have N:=d.size;by_cases v:k<c.body.length
  ·obtain⟨g,U,L,rfl,G,z,x,y,C⟩:=Q.cell k v;have u:=zl d G z;have aa:=zl d G x;have Y:=zl d G y;have X:g<wr.heap.size:=by omega
   have s:Hid ((c.body.take (k+1)).foldl (vV t) 0=vV t m c.body[k]):=by rw[Hid,H.out,yM v,ju];rfl
   have p:=h.below d;clear z x y C H;generalize c.body[k]=a at *;have o:=oL R.out a;cases l:zY t a.pred with
   |none=>
    have j:Hid (jC t a=0):=by unfold Hid jC;rw[l]
    have E:Hid ((c.body.take (k+1)).foldl (vV t) 0=m):=by rw[Hid,s.out,vV,j.out];simp
    have A:=OY l;clear s j l o;go_wp2_with (first|(go_at_call 159;refine(LO B _ tb t a.pred (by exact p.below (by go_grown)) D A).mono ?_;rintro e P ⟨rfl,rfl⟩))
    go_roundw
    case rel=>exact⟨k+1,m,by omega,by go_num,rfl,F,(by go_grown),E.out.symm⟩
    case measure=>simp[intOf];omega
   |some f=>
    have A:=OY l;cases r:a.neg with
    |true=>
     have q:jC t a=f.qh+1:=by unfold jC;rw[l,r];rfl
     have j:Hid (vV t m a=if m<f.qh+1 then f.qh+1 else m):=by unfold Hid vV;rw[q]
     rw[r] at u;rw[q] at o;clear q l r;by_cases b:m<f.qh+1
     all_goals
      go_wp2_with (first|(go_at_call 159;refine(oT B _ tb t a.pred f (by exact p.below (by go_grown)) D A).mono ?_;rintro e P ⟨rfl,rfl⟩))
      go_roundw
      case rel=>first|exact⟨k+1,f.qh+1,by omega,by go_num,by go_num,by omega,(by go_grown),by rw[Hid,s.out,j.out,zb b]⟩|exact⟨k+1,m,by omega,by go_num,rfl,F,(by go_grown),by rw[Hid,s.out,j.out,za b]⟩
      case measure=>simp[intOf];omega
    |false=>
     have q:jC t a=f.qh:=by unfold jC;rw[l,r];rfl
     have j:Hid (vV t m a=if m<f.qh then f.qh else m):=by unfold Hid vV;rw[q]
     rw[r] at u;rw[q] at o;clear q l r;by_cases b:m<f.qh
     all_goals
      go_wp2_with (first|(go_at_call 159;refine(oT B _ tb t a.pred f (by exact p.below (by go_grown)) D A).mono ?_;rintro e P ⟨rfl,rfl⟩))
      go_roundw
      case rel=>first|exact⟨k+1,f.qh,by omega,by go_num,by go_num,by omega,(by go_grown),by rw[Hid,s.out,j.out,zb b]⟩|exact⟨k+1,m,by omega,by go_num,rfl,F,(by go_grown),by rw[Hid,s.out,j.out,za b]⟩
      case measure=>simp[intOf];omega
  ·have E:Hid (m=qu t c):=by rw[Hid,H.out,xk (by omega)];rfl
   clear H;go_wp2;go_ret;exact⟨by rw[←E.out];rfl,d⟩
def vq(x:List zg×Bool)(c:zc):List zg×Bool:=((xv x.1 c.head.pred (qu x.1 c)).1,x.2||(xv x.1 c.head.pred (qu x.1 c)).2)
def vo(t:List zg)(cs:List zc):List zg×Bool:=cs.foldl vq (t,false)
theorem KE{t:List zg}{n:ByteArray}{s M:Nat}(h:∀e∈t,e.qh<=M)(b:s<=M):∀e∈(xv t n s).1,e.qh<=M:=by
 unfold xv;split
 ·exact h
 ·split
  ·exact h
  ·intro e a;rcases nZ a with a|a
   ·exact h e a
   ·subst a;exact b
theorem LX{α β:Type}(f:β->α->β)(b:β)(l:List α)(k:Nat)(a:k<l.length):(l.take (k+1)).foldl f b=f ((l.take k).foldl f b) l[k]:=by rw[yM a,ju];rfl
theorem Om(B M:Nat)(w:World)(tb:Nat)(t:List zg)(v:Value)(cs:List zc)(H:World)(T:H.heap.size=B)(N:Below B H w)(I:PE lo 171 H v cs)(O:∀c∈cs,vD c)(_:cs.length<=1000)
  (h:TA B w tb t) (hl:t.length<=1000) (hM:∀e∈t,e.qh<=M) (ap:M+cs.length<=1900000):
  Calls prog 104 #[.pointer (some ⟨tb,0,none⟩),v] w fun e w'=>e=.returned (.bool (vo t cs).2)/\TA B w' tb (vo t cs).1/\Below B w w'/\(vo t cs).1.length=t.length/\(∀e∈(vo t cs).1,e.qh<=M+cs.length):=by
 obtain⟨ao,ah,rfl⟩:=I.qw;have S:Hid (∀c∈cs,vD c):=O;have Y:=N.size;clear O;go_enter func104,ntmps104;go_wp2;go_loopw [5,11] (fun r i wr=>∃k:Nat,k<=cs.length/\i=.int .i64 k/\r=.bool ((cs.take k).foldl vq (t,false)).2/\Below B w wr/\TA B wr tb ((cs.take k).foldl vq (t,false)).1/\((cs.take k).foldl vq (t,false)).1.length=t.length/\Hid (∀e∈((cs.take k).foldl vq (t,false)).1,e.qh<=M+k)) (fun _ i _=>cs.length-(intOf i).toNat)
 case atStart=>exact⟨0,zv _,rfl,rfl,zo _ _,h,rfl,hM⟩
 case round=>
  obtain⟨k,hk,rfl,rfl,b,d,z,q⟩:=hrel;have j:Below H.heap.size H wr:=by rw[T];exact N.trans b
  have ab:=b.size;by_cases y:k<cs.length
  ·have E:=LX vq (t,false) cs k y;obtain⟨g,ag,aa,aj,ac,rfl,hg,P,F,K,J,G,s⟩:=I.cell k y;have ad:=(j.cell (p:=⟨g,k*4,none⟩) (by omega)).trans P;have an:=(j.cell (p:=⟨g,k*4+1,none⟩) (by omega)).trans F;have al:=(j.cell (p:=⟨g,k*4+2,none⟩) (by omega)).trans K;have ak:=(j.cell (p:=⟨g,k*4+3,none⟩) (by omega)).trans J;have ai:g<wr.heap.size:=by omega
   have o:=G.below j;have u:=s.below j;obtain⟨am,L⟩:=S.out _ (zu y);clear P F K J G s;generalize cs[k]=a at *;generalize (cs.take k).foldl vq (t,false)=x at *;obtain⟨tk,rk⟩:=x;simp only at d z q ⊢;have Q:Hid ((cs.take (k+1)).foldl vq (t,false)=vq (tk,rk) a):=E;clear E;have af:qu tk a<=M+k+1:=Du q.out a.body 0 (by omega);have ae:=LI tk a.head.pred (qu tk a);have HB:Hid (∀e∈(xv tk a.head.pred (qu tk a)).1,e.qh<=M+(k+1)):=KE (fun e he=>by have:=q.out e he;omega) (by omega);cases hR:(xv tk a.head.pred (qu tk a)).2 with
   |true=>
    have n:Hid (((cs.take (k+1)).foldl vq (t,false))=((xv tk a.head.pred (qu tk a)).1,true)):=by rw[Hid,Q.out,vq];simp[hR]
    clear Q;go_wp2_with (first|(go_at_call 150;refine(Dj B (M+k) _ tb tk a _ _ (by exact d.below (by go_grown)) (by omega) q.out (by omega) (by exact o.below (by go_grown)) (by exact u.below (by go_grown)) L).mono ?_;rintro e w1 ⟨rfl,l⟩;have f:=Pc ((zo wr.heap.size wr).alloc (zh _) _) l;have A:=d.below f;have R:=f.size;have m:=(OZ.new wr _ _).below l;obtain⟨U,X⟩:=m.rules)|(go_at_call 151;refine(Qe B _ tb tk a.head.pred (qu tk a) A (by omega) (by omega)).mono ?_;rintro e w2 ⟨rfl,C,D⟩))
    go_roundw
    case rel=>exact⟨k+1,by omega,by go_num,by rw[n.out],(b.trans (f.mono (by omega))).trans D,by rw[n.out];exact C,by rw[n.out];simp only;omega,by rw[n.out];exact HB⟩
    case measure=>simp[intOf];omega
   |false=>
    have n:Hid (((cs.take (k+1)).foldl vq (t,false))=((xv tk a.head.pred (qu tk a)).1,rk)):=by rw[Hid,Q.out,vq];simp[hR]
    clear Q;go_wp2_with (first|(go_at_call 150;refine(Dj B (M+k) _ tb tk a _ _ (by exact d.below (by go_grown)) (by omega) q.out (by omega) (by exact o.below (by go_grown)) (by exact u.below (by go_grown)) L).mono ?_;rintro e w1 ⟨rfl,l⟩;have f:=Pc ((zo wr.heap.size wr).alloc (zh _) _) l;have A:=d.below f;have R:=f.size;have m:=(OZ.new wr _ _).below l;obtain⟨U,X⟩:=m.rules)|(go_at_call 151;refine(Qe B _ tb tk a.head.pred (qu tk a) A (by omega) (by omega)).mono ?_;rintro e w2 ⟨rfl,C,D⟩))
    go_roundw
    case rel=>exact⟨k+1,by omega,by go_num,by rw[n.out],(b.trans (f.mono (by omega))).trans D,by rw[n.out];exact C,by rw[n.out];simp only;omega,by rw[n.out];exact HB⟩
    case measure=>simp[intOf];omega
  ·have Z:cs.take k=cs:=xk (by omega);rw[Z] at d z q ⊢;have V:k=cs.length:=by omega
   have W:Hid (∀e∈(vo t cs).1,e.qh<=M+cs.length):=by rw[←V];exact q
   clear Z q;go_wp2;go_ret;exact⟨rfl,d,b,z,W⟩
def xK:Nat->List zg->List zc->List zg×Bool
 |0,t,_=>(t,false)
 |m+1,t,a=>if (vo t a).2 then xK m (vo t a).1 a else((vo t a).1,true)
theorem Ex(B:Nat)(w:World)(tb:Nat)(t:List zg)(v:Value)(cs:List zc)(s:World)(o:s.heap.size=B)(J:Below B s w)(F:PE lo 171 s v cs)(z:∀c∈cs,vD c)(x:cs.length<=1000)
  (h:TA B w tb t) (T:t.length<=1000) (P:∀e∈t,e.qh<=0):
  Calls prog 64 #[.pointer (some ⟨tb,0,none⟩),v] w fun e n=>e=.returned (.bool (xK (t.length+1) t cs).2)/\TA B n tb (xK (t.length+1) t cs).1/\Below B w n:=by
 have D:Hid (∀c∈cs,vD c):=z;have R:Hid (s.heap.size=B):=o;clear z o;go_enter func64,ntmps64;go_wp2;go_loopw [5] (fun i wr=>∃(p:Nat) (tk:List zg),p<=t.length+1/\i=.int .i64 p/\Below B w wr/\TA B wr tb tk/\tk.length=t.length/\Hid (∀e∈tk,e.qh<=p*cs.length)/\Hid (xK (t.length+1) t cs=xK (t.length+1-p) tk cs)) (fun i _=>t.length+1-(intOf i).toNat)
 case atStart=>exact⟨0,t,zv _,rfl,zo _ _,h,rfl,(by simpa [Hid] using P),rfl⟩
 case round=>
  obtain⟨p,tk,V,rfl,b,d,E,K,H⟩:=hrel;obtain⟨S,O,q,A⟩:=d.view;obtain⟨N,U⟩:=q.rules;rw[E] at N q A;by_cases M:p<=t.length
  ·have u:p*cs.length<=1000*1000:=Nat.mul_le_mul (by omega) x;have y:=Om B (p*cs.length) wr tb tk v cs s R.out (J.trans b) F D.out x d (by omega) K.out (by omega);have a:Hid (Calls prog 104 #[.pointer (some ⟨tb,0,none⟩),v] wr fun e n=>e=.returned (.bool (vo tk cs).2)/\TA B n tb (vo tk cs).1/\Below B wr n/\(vo tk cs).1.length=tk.length/\(∀e∈(vo tk cs).1,e.qh<=p*cs.length+cs.length)):=y;have r:t.length+1-p=(t.length-p)+1:=by omega
   have C:Hid (xK (t.length+1) t cs=if (vo tk cs).2 then xK (t.length-p) (vo tk cs).1 cs else((vo tk cs).1,true)):=by rw[Hid,H.out,r];rfl
   clear y r H;have m:p*cs.length+cs.length=(p+1)*cs.length:=by rw[Nat.add_mul];omega
   have I:Hid (p*cs.length+cs.length=(p+1)*cs.length):=m;clear m u K;cases l:(vo tk cs).2 with
   |true=>
    have f:Hid (xK (t.length+1) t cs=xK (t.length+1-(p+1)) (vo tk cs).1 cs):=by rw[Hid,C.out,l];simp
    clear C;rw[l] at a;clear l;generalize (vo tk cs).1=L at *;go_wp2_with (first|(go_at_call 104;refine a.out.mono ?_;rintro e Q ⟨rfl,g,j,G,k⟩;clear a))
    go_roundw
    case rel=>exact⟨p+1,L,by omega,by go_num,b.trans j,g,by omega,by rw[I.out] at k;exact k,f⟩
    case measure=>simp[intOf];omega
   |false=>
    have f:Hid (xK (t.length+1) t cs=((vo tk cs).1,true)):=by rw[Hid,C.out,l];simp
    clear C;rw[l] at a;clear l;generalize (vo tk cs).1=L at *;go_wp2_with (first|(go_at_call 104;refine a.out.mono ?_;rintro e Q ⟨rfl,g,j,G,k⟩;clear a))
    go_ret;exact⟨by rw[f.out];rfl,by rw[f.out];exact g,b.trans j⟩
  ·have f:Hid (xK (t.length+1) t cs=(tk,false)):=by rw[Hid,H.out,show t.length+1-p=0 by omega];rfl
   clear H;go_wp2;go_ret;exact⟨by rw[f.out];rfl,by rw[f.out];exact d,b⟩
end
def Q0(c:Int)(s:ByteArray):Bool:=s.data.toList.any fun b=>(b.toNat:Int) == c
theorem mQ(c:Int)(s:ByteArray)(w:World)(n:s.size<=1000):
  Calls prog 105 #[.int .u8 c,.string s] w fun e m=>e=.returned (.bool (Q0 c s))/\m=w:=by
 go_enter func105,ntmps105;go_wp2;go_loop [5] (fun i=>∃k:Nat,k<=s.size/\i=.int .i64 k/\Hid (Q0 c s=(s.data.toList.drop k).any fun b=>(b.toNat:Int) == c)) (fun i=>s.size-(intOf i).toNat)
 case atStart=>exact⟨0,zv _,rfl,rfl⟩
 case round=>
  obtain⟨k,o,rfl,H⟩:=hrel;by_cases g:k<s.size
  ·have f:k<s.data.toList.length:=by rw[nt];exact g
   have d:=ip s.data.toList (fun b=>(b.toNat:Int) == c) k f;have h:s.data.toList[k]=s[k]:=rfl;rw[h] at d;have j:Hid (Q0 c s=(((s[k].toNat:Int) == c)||(s.data.toList.drop (k+1)).any fun b=>(b.toNat:Int) == c)):=by rw[Hid,H.out,d]
   cases l:((s[k].toNat:Int) == c) with
   |true=>
    have a:Hid (Q0 c s=true):=by rw[Hid,j.out,l];rfl
    go_wp2;go_ret;exact⟨by rw[a.out];rfl,rfl⟩
   |false=>
    have a:Hid (Q0 c s=(s.data.toList.drop (k+1)).any fun b=>(b.toNat:Int) == c):=by rw[Hid,j.out,l];rfl
    go_wp2;go_round
    case rel=>exact⟨k+1,by omega,by go_num,a⟩
    case measure=>simp[intOf];omega
  ·have a:Hid (Q0 c s=false):=by rw[Hid,H.out,ui (by rw[nt];show s.size<=k;omega)];rfl
   go_wp2;go_ret;exact⟨by rw[a.out];rfl,rfl⟩
theorem mz(p:Int->Bool)(s:ByteArray)(h:(List.range 256).all (fun n=>Q0 (n:Int) s == p (n:Int))=true)(c:Int)(a:0<=c)(b:c<256):Q0 c s=p c:=by
 obtain⟨n,rfl⟩:=Int.eq_ofNat_of_zero_le a;have:=lq.1 h n (by simp;omega);simpa using this
def Q6(c:Int):Bool:=c == 40||c == 41||c == 44||c == 46||c == 33
def lR(c:Int):Bool:=yQ c||vE c
theorem KC(c:Int)(a:0<=c)(b:c<256):Q0 c {data:=#[32,10]}=vT c:=mz vT _ (by decide +kernel) c a b
theorem Km(c:Int)(a:0<=c)(b:c<256):Q0 c {data:=#[48,49,50,51,52,53,54,55,56,57]}=yJ c:=mz yJ _ (by decide +kernel) c a b
theorem IS(c:Int)(a:0<=c)(b:c<256):Q0 c {data:=#[97,98,99,100,101,102,103,104,105,106,107,108,109,110,111,112,113,114,115,116,117,118,119,120,121,122]}=yQ c:=mz yQ _ (by decide +kernel) c a b
theorem Hf(c:Int)(a:0<=c)(b:c<256):Q0 c {data:=#[65,66,67,68,69,70,71,72,73,74,75,76,77,78,79,80,81,82,83,84,85,86,87,88,89,90]}=vE c:=mz vE _ (by decide +kernel) c a b
theorem Mx(c:Int)(a:0<=c)(b:c<256):Q0 c {data:=#[97,98,99,100,101,102,103,104,105,106,107,108,109,110,111,112,113,114,115,116,117,118,119,120,121,122,65,66,67,68,69,70,71,72,73,74,75,76,77,78,79,80,81,82,83,84,85,86,87,88,89,90]}=lR c:=mz lR _ (by decide +kernel) c a b
theorem Fp(c:Int)(a:0<=c)(b:c<256):Q0 c {data:=#[97,98,99,100,101,102,103,104,105,106,107,108,109,110,111,112,113,114,115,116,117,118,119,120,121,122,65,66,67,68,69,70,71,72,73,74,75,76,77,78,79,80,81,82,83,84,85,86,87,88,89,90,48,49,50,51,52,53,54,55,56,57]}=P9 c:=mz P9 _ (by decide +kernel) c a b
theorem FZ(c:Int)(a:0<=c)(b:c<256):Q0 c {data:=#[40,41,44,46,33]}=Q6 c:=mz Q6 _ (by decide +kernel) c a b
theorem nK(c:Int)(w:World)(a:0<=c)(b:c<256):Calls prog 105 #[.int .u8 c,.string {data:=#[32,10]}] w fun e d=>e=.returned (.bool (vT c))/\d=w:=by
 have:=mQ c {data:=#[32,10]} w (by decide);rw[KC c a b] at this;exact this
theorem hY(c:Int)(w:World)(a:0<=c)(b:c<256):Calls prog 105 #[.int .u8 c,.string {data:=#[48,49,50,51,52,53,54,55,56,57]}] w fun e d=>e=.returned (.bool (yJ c))/\d=w:=by
 have:=mQ c {data:=#[48,49,50,51,52,53,54,55,56,57]} w (by decide);rw[Km c a b] at this;exact this
theorem EN(c:Int)(w:World)(a:0<=c)(b:c<256):Calls prog 105 #[.int .u8 c,.string {data:=#[97,98,99,100,101,102,103,104,105,106,107,108,109,110,111,112,113,114,115,116,117,118,119,120,121,122]}] w fun e d=>e=.returned (.bool (yQ c))/\d=w:=by
 have:=mQ c {data:=#[97,98,99,100,101,102,103,104,105,106,107,108,109,110,111,112,113,114,115,116,117,118,119,120,121,122]} w (by decide);rw[IS c a b] at this;exact this
theorem ND(c:Int)(w:World)(a:0<=c)(b:c<256):Calls prog 105 #[.int .u8 c,.string {data:=#[65,66,67,68,69,70,71,72,73,74,75,76,77,78,79,80,81,82,83,84,85,86,87,88,89,90]}] w fun e d=>e=.returned (.bool (vE c))/\d=w:=by
 have:=mQ c {data:=#[65,66,67,68,69,70,71,72,73,74,75,76,77,78,79,80,81,82,83,84,85,86,87,88,89,90]} w (by decide);rw[Hf c a b] at this;exact this
theorem ld(c:Int)(w:World)(a:0<=c)(b:c<256):Calls prog 105 #[.int .u8 c,.string {data:=#[97,98,99,100,101,102,103,104,105,106,107,108,109,110,111,112,113,114,115,116,117,118,119,120,121,122,65,66,67,68,69,70,71,72,73,74,75,76,77,78,79,80,81,82,83,84,85,86,87,88,89,90]}] w fun e d=>e=.returned (.bool (lR c))/\d=w:=by
 have:=mQ c {data:=#[97,98,99,100,101,102,103,104,105,106,107,108,109,110,111,112,113,114,115,116,117,118,119,120,121,122,65,66,67,68,69,70,71,72,73,74,75,76,77,78,79,80,81,82,83,84,85,86,87,88,89,90]} w (by decide);rw[Mx c a b] at this;exact this
theorem f9(c:Int)(w:World)(a:0<=c)(b:c<256):Calls prog 105 #[.int .u8 c,.string {data:=#[97,98,99,100,101,102,103,104,105,106,107,108,109,110,111,112,113,114,115,116,117,118,119,120,121,122,65,66,67,68,69,70,71,72,73,74,75,76,77,78,79,80,81,82,83,84,85,86,87,88,89,90,48,49,50,51,52,53,54,55,56,57]}] w fun e d=>e=.returned (.bool (P9 c))/\d=w:=by
 have:=mQ c {data:=#[97,98,99,100,101,102,103,104,105,106,107,108,109,110,111,112,113,114,115,116,117,118,119,120,121,122,65,66,67,68,69,70,71,72,73,74,75,76,77,78,79,80,81,82,83,84,85,86,87,88,89,90,48,49,50,51,52,53,54,55,56,57]} w (by decide);rw[Fp c a b] at this;exact this
theorem jV(c:Int)(w:World)(a:0<=c)(b:c<256):Calls prog 105 #[.int .u8 c,.string {data:=#[40,41,44,46,33]}] w fun e d=>e=.returned (.bool (Q6 c))/\d=w:=by
 have:=mQ c {data:=#[40,41,44,46,33]} w (by decide);rw[FZ c a b] at this;exact this
theorem kE(s:ByteArray)(w:World)(h:0<s.size):
  Calls prog 184 #[.string s] w fun e a=>e=.returned (.bool (yQ (Pi s 0)))/\a=w:=by
 have b:=fK s 0;rw[vY h] at b ⊢;go_enter func184,ntmps184;go_wp2_with (first|(go_at_call 105;refine(EN _ _ (by omega) (by omega)).mono ?_;rintro e a ⟨rfl,rfl⟩))
 go_ret;exact⟨rfl,rfl⟩
theorem tB(s:ByteArray)(w:World)(h:0<s.size):
  Calls prog 154 #[.string s] w fun e a=>e=.returned (.bool (vE (Pi s 0)))/\a=w:=by
 have b:=fK s 0;rw[vY h] at b ⊢;go_enter func154,ntmps154;go_wp2_with (first|(go_at_call 105;refine(ND _ _ (by omega) (by omega)).mono ?_;rintro e a ⟨rfl,rfl⟩))
 go_ret;exact⟨rfl,rfl⟩
theorem lS(s:ByteArray)(w:World)(h:0<s.size):
  Calls prog 185 #[.string s] w fun e a=>e=.returned (.bool (P9 (Pi s 0)))/\a=w:=by
 have b:=fK s 0;rw[vY h] at b ⊢;go_enter func185,ntmps185;go_wp2_with (first|(go_at_call 105;refine(f9 _ _ (by omega) (by omega)).mono ?_;rintro e a ⟨rfl,rfl⟩))
 go_ret;exact⟨rfl,rfl⟩
end Go.Proofs.YteampbddflhngaaGreat
