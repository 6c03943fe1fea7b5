import Derived.Laws.Cover3
import Derived.Test.YteampbddflhngaaGreatQ11
import Derived.Test.YteampbddflhngaaGreatQ13
namespace Go.Proofs.YteampbddflhngaaGreat
set_option linter.all false
set_option maxRecDepth 100000
set_option maxHeartbeats 4000000
open Go.RowKit
section
open Go.Proofs.Tryz
variable {lo:Nat}
def Se.but{g:TypeId}{r:Nat}{w w':World}{v:Value}{l:List zd}(h:Se lo g w v l)(b:RD r w w'){c:Array Value}{T:TypeId}{f:Nat×Nat}(a:w.heap[r]?=some (.cells c T f))(i:T≠9)(e:T≠90)(d:T≠g):Se lo g w' v l:=by
 obtain⟨j,h,m⟩:=h;exact⟨j,xF h b a d,m.mono (λ_ _ k=>k.but b a i) (λ_ _ k=>k.but b a i e)⟩
structure Ti (w:World) (pb:Nat) (cv pv:Value) (cs:List zd) (ps:κ) (sv:List Nat) (wr:World):Prop where
 but:RD pb w wr
 box:Rz wr pb #[cv,pv,.slice (some ⟨w.heap.size,0,none⟩) ps.length ps.length] 45
 row:wr.ownsRow w.heap.size 3 1 (.slice (some ⟨w.heap.size,0,none⟩) ps.length ps.length) ps.length (sv.map Sf)
 len:sv.length=ps.length
 low:Ty cs ps sv
 top:∀s∈sv,s<ps.length
def Ti.cell{w:World}{pb:Nat}{f e:Value}{cs:List zd}{ps:κ}{sv:List Nat}{wr:World}(h:Ti w pb f e cs ps sv wr)(k:Nat)(b:k<sv.length):w.heap.size<wr.heap.size/\wr.cell? ⟨w.heap.size,k,none⟩=some (ι (sv[k]:Int)):=by
 obtain⟨g,c,a,_,d,i⟩:=yw h.row (by have:=h.len;omega);simp at a;obtain⟨rfl,_⟩:=a;exact⟨d,i k _ (by simp[b,Sf])⟩
def Ti.set{w:World}{pb:Nat}{d c:Value}{cs:List zd}{ps:κ}{sv:List Nat}{wr:World}(h:Ti w pb d c cs ps sv wr)(f:pb<w.heap.size)(k:Nat)(e:k<sv.length)(s:Nat)(hs:s<ps.length)(a:Ty cs ps (sv.set k s)):
  Ti w pb d c cs ps (sv.set k s) (wr.setCell ⟨w.heap.size,k,none⟩ (ι (s:Int))):=by
 refine⟨h.but.setNew (zf _) _,h.box.set_ne (by omega) _ _,?_,by simpa using h.len,a,?_⟩;have:=uj h.row k (by simpa using e) (Sf s);rw[gA];exact this;intro x b;rcases lz b with b|b;exact h.top x b;omega
def Mx(w:World)(pb:Nat)(b c:Value)(cs:List zd)(ps:κ)(e:Ending)(w':World):Prop:=RD pb w w'/\((e=ε (.bool false)/\¬∃f,S2 cs f)∨∃a,e=ε (.bool true)/\Ti w pb b c cs ps a w'/\Sj cs (vB ps a))
def Nt{sv:List Nat}{k s:Nat}(a:k<sv.length)(hs:sv[k]<s):sv.sum<(sv.set k s).sum:=by have:=Ee sv k s a;omega
def O5{ps:κ}{sv:List Nat}(a:sv.length=ps.length)(h:∀s∈sv,s<ps.length):sv.sum<=ps.length*ps.length:=by rw[←a] at h ⊢;exact CB sv sv.length λs b=>by have:=h s b;omega
def Se.ne{d T:TypeId}{w:World}{g n cap pb:Nat}{cs:List zd}{c:Array Value}(h:Se lo d w (.slice (some ⟨g,0,none⟩) n cap) cs)(b:Rz w pb c T)(j:T≠d):g≠pb:=by
 obtain⟨k,⟨_,⟨a,_⟩|⟨l,e,f,a,_,i,_⟩⟩,_⟩:=h;cases a;simp at a;obtain⟨rfl,_⟩:=a;rintro rfl;unfold Rz at b;rw[i] at b;simp at b;exact j b.2.symm
def f5.but{w w':World}{g o:Nat}{c:zd}{k:Option Addr}{cap:Nat}{b:Option Addr}{a r:Nat}(h:f5 w g o c k cap b a)(e:RD r w w')(f:g≠r){m:Array Value}{T:TypeId}(j:Rz w r m T)(l:T≠9)(i:T≠90):f5 w' g o c k cap b a:=
 have d:∀o,w'.cell? ⟨g,o,none⟩=w.cell? ⟨g,o,none⟩:=λ_=>World.cell?_of_block (w:=w) (e.block g h.lt f)
 ⟨yE h.lt e.size,(d _).trans h.c0,(d _).trans h.c1,(d _).trans h.c2,(d _).trans h.c3,h.args.but e j l,h.body.but e j l i⟩
def E0(w:World)(pb:Nat)(cv pv v2:Value)(cs:List zd)(ps:κ)(hp:Rz w pb #[cv,pv,v2] 45)(af:Se lo 93 w cv cs){a8:Nat}(ad:R7 a8 w pv ps)(a3:∀c∈cs,vT c/\c.body.length<=999)(hl:cs.length<=1000)(x:ps.length<=1000)(ap:∀c∈cs,∀l∈zm c,l.pred∈ps):
  Calls prog 70 #[(π pb)] w λe w'=>Mx w pb cv pv cs ps e w':=by
 obtain⟨ao,G,rfl⟩:=af.qy;obtain⟨O,p,rfl⟩:=ad.qy;obtain⟨a1,ay,ak⟩:=hp.boxed;have aC:=Ry a3;have ar:=Ry ap;have HP:=Ry hp;have a9:=run_make_row' (P:=prog) 24 3 (ι 0) 8 underlying24 QO rfl .i64 .i64 ps.length (by omega) (by omega);clear a3 ap;go_enter func70,ntmps70;go_wp2;clear a9;go_loopg [4] (2*(ps.length*ps.length)+1) (λN v3 wr=>∃(D:List Nat) (more:Bool),v3=.bool more/\Ti w pb (.slice ao cs.length G) (.slice O ps.length p) cs ps D wr/\Hid (more=false->S9 cs ps D cs.length)/\2*(ps.length*ps.length-D.sum)+more.toNat<=N)
 case atStart=>
  have a5:(w.setCell ⟨pb,2,none⟩ (.slice (some ⟨w.heap.size,0,none⟩) ps.length ps.length)).heap.size=w.heap.size:=by simp[World.setCell]
  have am:=C4 (w.setCell ⟨pb,2,none⟩ (.slice (some ⟨w.heap.size,0,none⟩) ps.length ps.length)) ps.length 3 (by unfold maxLen;omega);rw[a5] at am;refine⟨List.replicate ps.length 0,true,rfl,⟨(by repeat'(first|with_reducible(first|apply xR|assumption|apply xN|apply xA|apply xD|apply xS|apply xT)|go_size)),?_,am,by simp,N8 _ _ _,?_⟩,(by intro h;cases h),(by simp)⟩;exact(hp.set 2 _).below zP;intro s hs;rw[List.mem_replicate] at hs;omega
 clear a1 ay;obtain⟨D,more,rfl,t,HC,hN⟩:=hrel;cases more
 .have J:=Ry (HC.out rfl);clear HC;go_wp2;go_ret;exact⟨t.but,ze ⟨D,rfl,t,Jg t.low J.out⟩⟩
 go_wp2;go_loopw [4,5] (λv3 v4 wi=>∃(k:Nat) (si:List Nat) (mi:Bool),k<=cs.length/\v4=ι k/\v3=.bool mi/\Ti w pb (.slice ao cs.length G) (.slice O ps.length p) cs ps si wi/\D.sum<=si.sum/\(mi=true->D.sum<si.sum)/\Hid (mi=false->S9 cs ps si k)) (λ_ i _=>cs.length-(intOf i).toNat)
 case atStart=>exact⟨0,D,false,zv _,rfl,rfl,t,zf _,(by simp),λ_=>OM _ _ _⟩
 obtain⟨k,si,mi,hk,rfl,rfl,r,a4,X,aq⟩:=hrel;have H:=r.box;obtain⟨az,a0,au⟩:=H.boxed;by_cases I:k<cs.length
 .obtain⟨g,aO,aG,ba,aJ,rfl,B⟩:=af.at k I;have V:=af.ne hp (by decide);have u:=B.but r.but V hp (by decide) (by decide);have aa:=ad.but r.but HP.out (by decide);obtain⟨bb,aT⟩:=aC.out _ (zt I);have M:=ar.out _ (zt I);have Y:=zt I;have ah:=Ry λs' (h1:S9 cs ps s' k) (h2:mV cs[k] ps s' cs[k].body.length)=>GA h1 I h2;generalize cs[k]=c at *;have a2:=Ry M;have ab:=Ry Y;have aD:=Ry B;obtain⟨K,S⟩:=sU (M c.head (by simp[zm]));have aM:=(fZ S).1;have ax:=Ry S;have a6:Hid (fq ps c.head.pred=(K:Int)):=by unfold Hid fq;rw[S]
  have aB:=u.c1;have an:=u.c3;have W:=u.lt;clear S M Y B;go_wp2_with (go_at_call 111;refine(mH _ pb _ _ _ ps c.head.pred H aa x).mono ?_;rw[a6.out];rintro e w' ⟨rfl,d⟩;obtain rfl:=d.symm)
  go_loopw [4,8] (λv3 v7 wj=>∃(j:Nat) (b:List Nat) (R:Bool),j<=c.body.length/\v7=ι j/\v3=.bool R/\Ti w pb (.slice (some ⟨g,0,none⟩) cs.length G) (.slice O ps.length p) cs ps b wj/\D.sum<=b.sum/\(R=true->D.sum<b.sum)/\Hid (R=false->S9 cs ps b k/\mV c ps b j)) (λ_ i _=>c.body.length-(intOf i).toNat)
  case atStart=>exact⟨0,si,mi,zv _,rfl,rfl,r,a4,X,λh=>⟨aq.out h,NA _ _ _⟩⟩
  clear az a0 aB an u aa H au W;obtain⟨j,b,R,hj,rfl,rfl,a,E,F,y⟩:=hrel;have f:=a.box;obtain⟨az,a0,aK⟩:=f.boxed;have C:=aD.out.but a.but V HP.out (by decide) (by decide);have o:=ad.but a.but HP.out (by decide);have an:=C.c3;have W:=C.lt;by_cases aj:j<c.body.length
  .obtain⟨gl,aQ,aL,aE,aV,al,aZ,_,_⟩:=C.body.cell j aj;subst aE;have ag:=zt aj;obtain⟨kb,U⟩:=sU (a2.out c.body[j] (by simp[zm]));have aI:=(fZ U).1;have aH:=a.len;have A:kb<b.length:=by omega
   have n:K<b.length:=by omega
   have T:=wh U A;have av:=wh ax.out n;have q:Hid (fq ps c.body[j].pred=(kb:Int)):=by unfold Hid fq;rw[U]
   have v:Hid (Ty cs ps (b.set K (b[kb]+up c.body[j]))):=by have:=Hr a.low ab.out ag ax.out n;rw[T] at this;exact this
   have ae:=Ry λh=>Kp a.low ar.out ab.out ag (by rw[T];exact h);have aw:=Ry λh1 h2=>KH h2 aj (by rw[T,av];exact h1);have Z:=Ry λs h1 h2=>a.set ak K n s h1 h2;have L:=Ry λs (h:b[K]<s)=>Nt n h;obtain⟨aP,aS⟩:=a.cell kb A;obtain⟨_,aW⟩:=a.cell K n;have aY:=uH a.row;have aU:=a.top _ (zt A);have aN:=a.top _ (zt n);clear T av U ag;generalize b[kb]=Q at *;generalize b[K]=sh at *;generalize c.body[j]=l at *;cases m:l.neg
   .have z:up l=0:=by simp[up,m]
    rw[m] at al;clear m;by_cases ac:sh<Q
    .by_cases aF:ps.length<=Q;omega;have ai:Hid (Ti w pb (.slice (some ⟨g,0,none⟩) cs.length G) (.slice O ps.length p) cs ps (b.set K (Q)) (wr.setCell ⟨w.heap.size,K,none⟩ (ι ((Q:Nat):Int)))):=Z.out _ (by omega) (by have:=v.out;rw[z] at this;exact this);have a7:=L.out (Q) ac;go_wp2_with (go_at_call 111;refine(mH _ pb _ _ _ ps l.pred f o x).mono ?_;rw[q.out];rintro e w' ⟨rfl,d⟩;obtain rfl:=d.symm)
     go_roundw;exact⟨j+1,_,true,by omega,by go_num,rfl,ai.out,by omega,(λ_=>by omega),(λh=>by cases h)⟩;simp[intOf];omega
    have J:Hid (R=false->S9 cs ps b k/\mV c ps b (j+1)):=λh=>⟨(y.out h).1,aw.out (by rw[z];omega) (y.out h).2⟩;go_wp2_with (go_at_call 111;refine(mH _ pb _ _ _ ps l.pred f o x).mono ?_;rw[q.out];rintro e w' ⟨rfl,d⟩;obtain rfl:=d.symm)
    go_roundw;exact⟨j+1,b,R,by omega,by go_num,rfl,a,E,F,J⟩;simp[intOf];omega
   have z:up l=1:=by simp[up,m]
   rw[m] at al;clear m;by_cases ac:sh<Q+1
   .by_cases aF:ps.length<=Q+1
    .have HF:=Ry (ae.out (by rw[z];omega));go_wp2_with (go_at_call 111;refine(mH _ pb _ _ _ ps l.pred f o x).mono ?_;rw[q.out];rintro e w' ⟨rfl,d⟩;obtain rfl:=d.symm)
     go_ret;exact⟨a.but.setNew (zf _) _,zh ⟨rfl,HF.out⟩⟩
    have ai:Hid (Ti w pb (.slice (some ⟨g,0,none⟩) cs.length G) (.slice O ps.length p) cs ps (b.set K (Q+1)) (wr.setCell ⟨w.heap.size,K,none⟩ (ι ((Q+1:Nat):Int)))):=Z.out _ (by omega) (by have:=v.out;rw[z] at this;exact this);have a7:=L.out (Q+1) ac;go_wp2_with (go_at_call 111;refine(mH _ pb _ _ _ ps l.pred f o x).mono ?_;rw[q.out];rintro e w' ⟨rfl,d⟩;obtain rfl:=d.symm)
    go_roundw;exact⟨j+1,_,true,by omega,by go_num,rfl,ai.out,by omega,(λ_=>by omega),(λh=>by cases h)⟩;simp[intOf];omega
   have J:Hid (R=false->S9 cs ps b k/\mV c ps b (j+1)):=λh=>⟨(y.out h).1,aw.out (by rw[z];omega) (y.out h).2⟩;go_wp2_with (go_at_call 111;refine(mH _ pb _ _ _ ps l.pred f o x).mono ?_;rw[q.out];rintro e w' ⟨rfl,d⟩;obtain rfl:=d.symm)
   go_roundw;exact⟨j+1,b,R,by omega,by go_num,rfl,a,E,F,J⟩;simp[intOf];omega
  have HE:=Ry λh=>ah.out b (y.out h).1 (by have h2:=(y.out h).2;rw[show c.body.length=j from by omega];exact h2);go_wp2;go_roundw;exact⟨k+1,b,R,by omega,by go_num,rfl,a,E,F,HE⟩;simp[intOf];omega
 have aA:k=cs.length:=by omega
 have aR:=O5 r.len r.top;go_wp2;go_roundg (2*(ps.length*ps.length-si.sum)+mi.toNat)
 case measure=>
  have aX:2*(ps.length*ps.length-D.sum)+1<=gk:=hN;clear hN;generalize ps.length*ps.length=nn at *;cases mi;simp only[Bool.toNat_false];omega;have:=X rfl;simp only[Bool.toNat_true];omega
 exact⟨si,mi,rfl,r,(by rw[←aA];exact aq.out),zf _⟩
end
section
open Go.Proofs.Tryz
variable {lo:Nat}{l:List R8}
def GZ:∀{ts:κ} {l:List R8},fA ts l->∀t∈ts,∃y∈l,y.2=t:=by
 intro ts l h;induction h with
 |one=>intro t a;simp at a;exact⟨_,rJ,a.symm⟩
 |more _ _ _ c=>
  intro t a;rcases zy.1 a with rfl|a;exact⟨_,rJ,rfl⟩;obtain⟨y,b,e⟩:=c t a;exact⟨y,by simp[b],e⟩
def wy{a:zk}(h:q7 a l):∀t∈a.args,∃y∈l,y.2=t:=by
 cases h with
 |bare=>intro t b;cases b
 |args _ _ c _=>intro t b;obtain⟨y,d,e⟩:=GZ c t b;exact⟨y,by simp[d],e⟩
def Ei{a:zk}(h:gG a l):∀t∈a.args,∃y∈l,y.2=t:=by
 cases h with
 |qc h=>exact wy h
 |neg _ h=>intro t b;obtain⟨y,c,e⟩:=wy h t b;exact⟨y,by simp[c],e⟩
def IX:∀{b:List zk} {l:List R8},g6 b l->∀a∈b,∀t∈a.args,∃y∈l,y.2=t:=by
 intro b l h;induction h with
 |one h=>intro a c;simp at c;subst c;exact Ei h
 |more h _ _ g=>
  intro a c t f;rcases zy.1 c with rfl|c;obtain⟨y,d,e⟩:=Ei h t f;exact⟨y,by simp[d],e⟩;obtain⟨y,d,e⟩:=g a c t f;exact⟨y,by simp[d],e⟩
def Hv{c:zd}(h:fG c l):∀a∈zm c,∀t∈a.args,∃y∈l,y.2=t:=by
 cases h with
 |fact h=>intro a b;simp[zm] at b;subst b;exact wy h
 |rule h _ g=>
  intro a b t f;simp only[zm] at b;rcases zy.1 b with rfl|b;obtain⟨y,d,e⟩:=wy h t f;exact⟨y,by simp[d],e⟩;obtain⟨y,d,e⟩:=IX g a b t f;exact⟨y,by simp[d],e⟩
def Cr:∀{cs:List zd} {l:List R8},fy cs l->∀c∈cs,∀a∈zm c,∀t∈a.args,∃y∈l,y.2=t:=by
 intro cs l h;induction h with
 |nil=>intro c b;cases b
 |cons h _ _ i=>
  intro c b a g t f;rcases zy.1 b with rfl|b;obtain⟨y,d,e⟩:=Hv h a g t f;exact⟨y,by simp[d],e⟩;obtain⟨y,d,e⟩:=i c b a g t f;exact⟨y,by simp[d],e⟩
structure G7 (cs:List zd):Prop where
 ok:∀c∈cs,vT c/\c.body.length<=999/\xg (zm c)<=1000/\∀l∈zm c,∀t∈l.args,0<t.size
 len:cs.length<=1000
 lits:(cs.flatMap zm).length<=1000
def tW{s:ByteArray}{l:κ}(hs:s.size<=500)(h:xw s.size s=some l):∃a,RC s=some a/\l=zV a/\l.length<=500/\∀y∈l,0<y.size:=by
 rw[sH] at h;rcases b:RC s with _|a;rw[b] at h;cases h;rw[b] at h;simp only[jC,zr] at h;subst h;refine⟨a,rfl,rfl,?_,?_⟩;have:=wK b;simp;omega;intro y c;obtain⟨x,d,rfl⟩:=zE.1 c;exact(pO b x d).2
def iP{s:ByteArray}{l:κ}{cs:List zd}(hs:s.size<=500)(h:xw s.size s=some l)(j:vm l=some cs):G7 cs:=by
 obtain⟨e,b,rfl,p,v⟩:=tW hs h;have d:ub e:=λx r=>(pO b x r).1;have o:=(oM d cs).1 j;have g:yO e.length e.length e=some cs:=by
  have:=AD s;rw[h,b] at this;simp only[Option.bind_some] at this;rw[←this];exact j
 have w:=tS g;have q:e.length<=500:=by simpa [zV] using p
 have i:=As (cs:=cs) (by omega);refine⟨λc f=>⟨i c f,?_,?_,?_⟩,by have:=eC cs;omega,by have:=A5 cs;omega⟩;have b:=eJ f;have u:=sO c.body;unfold Tq kK at b;omega;have b:=eJ f;have u:=sO c.body;unfold Tq kK at b;simp only[zm,xg] at *;simp;omega;intro a n t k;obtain⟨y,m,rfl⟩:=Cr o c f a n t k;exact(pO b y m).2
def rg(r:Except Int (List zd×κ×List Nat))(w:World)(e:Ending)(w':World):Prop:=
 μ w w'/\match r with
  |.error n=>e=ε (.tuple #[.pointer none,ι n])
  |.ok (h,g,d)=>∃a f c b,e=ε (.tuple #[(π a),ι 0])/\Rz w' a #[f,c,b] 45/\Se w.heap.size 93 w' f h/\R7 w.heap.size w' c g/\w'.ownsRow w.heap.size 3 1 b d.length (d.map Sf)/\w.heap.size<=a
def Ho(s:ByteArray)(w:World)(hs:500<s.size)(b:s.size<=9223372036854775807):
  Calls prog 33 #[.string s] w λe a=>rg (.error 1) w e a:=by
 go_enter func33,ntmps33;go_wp2;go_ret2
 exact⟨zp _ _,rfl⟩
def KF(s:ByteArray)(w:World)(hs:s.size<=500)(h:xw s.size s=none):
  Calls prog 33 #[.string s] w λe a=>rg (.error 2) w e a:=by
 have c:Hid (∀W,Calls prog 65 #[.string s] W λe a=>μ W a/\e=ε (.tuple #[ν,.bool false])):=λW=>by have:=sX s W hs;rw[h] at this;exact this
 clear h;go_enter func33,ntmps33;go_wp2_with (go_at_call 65;refine(c.out _).mono ?_;rintro e d ⟨b,rfl⟩;clear c)
 go_ret2
 exact⟨b,rfl⟩
def N9(s:ByteArray)(w:World)(hs:s.size<=500)(l:κ)(h:xw s.size s=some l)(m:vm l=none):
  Calls prog 33 #[.string s] w λe o=>rg (.error 3) w e o:=by
 obtain⟨_,_,_,j,i⟩:=tW hs h;have d:=Ry λW=>by have:=sX s W hs;rw[h] at this;exact this
 have f:=Ry λW v k=>by have:=i4 W v l k i j;rw[m] at this;exact this
 go_enter func33,ntmps33;go_wp2_with (first|(go_at_call 65;refine(d.out _).mono ?_;rintro e q ⟨b,t,rfl,a⟩;clear d)|(go_at_call 66;refine(f.out _ _ (SV.of a)).mono ?_;rintro e p ⟨c,r,n,g,rfl⟩;clear f))
 go_ret2
 exact⟨R5 b c,rfl⟩
def IK(s:ByteArray)(w:World)(hs:s.size<=500)(l:κ)(cs:List zd)(h:xw s.size s=some l)(y:vm l=some cs)(I:jI cs≠0):
  Calls prog 33 #[.string s] w λe t=>rg (.error (jI cs)) w e t:=by
 obtain⟨_,_,_,H,G⟩:=tW hs h;have f:=iP hs h y;have j:=f.len;have A:=Ry λW=>by have:=sX s W hs;rw[h] at this;exact this
 have z:=Ry λW v F=>by have:=i4 W v l F G H;rw[y] at this;exact this
 have i:Hid (∀lo W o n m k,Rz W o #[n,m,k] 45->Se lo 93 W n cs->Calls prog 67 #[(π o)] W λe t=>e=ε (ι (jI cs))/\μ W t):=λ_ W o n m k E D=>E4 W o n m k cs E D f.ok j;go_enter func33,ntmps33;go_wp2_with (first|(go_at_call 65;refine(A.out _).mono ?_;rintro e K ⟨u,m,rfl,x⟩;clear A)|(go_at_call 66;refine(z.out _ _ (SV.of x)).mono ?_;rintro e C ⟨r,k,rfl,a⟩;obtain⟨g,b,rfl⟩:=a.qy;have d:=R5 u r;clear z)|(go_at_call 67;refine(i.out _ _ _ _ _ _ (Rz.new _ _ _) (by exact a.below (by repeat'(first|with_reducible(first|apply zR|assumption|apply zN|apply zA|apply zD|apply zS)|go_size)))).mono ?_;rintro e J ⟨rfl,c⟩;have B:=(Rz.new C #[.slice g cs.length b,ν,ν] 45).below c;have p:=(a.below ((zp _ _).alloc (zf _) (.cells #[.slice g cs.length b,ν,ν] 45))).below c;have q:=R5 (d.alloc d.size _) c;clear i))
 go_ret2
 exact⟨q,rfl⟩
def OB(w:World)(pb:Nat)(b d o:Value)(cs:List zd)(ps:κ)(s:Rz w pb #[b,d,o] 45)(j:Se lo 93 w b cs){g:Nat}(k:R7 g w d ps)(n:∀c∈cs,vT c/\c.body.length<=999)(x:cs.length<=1000)(m:ps.length<=1000)(i:∀c∈cs,∀l∈zm c,l.pred∈ps)(u:Hid (∃f,S2 cs f)):
  Calls prog 70 #[(π pb)] w λe p=>∃a,e=ε (.bool true)/\RD pb w p/\Ti w pb b d cs ps a p/\Sj cs (vB ps a):=
 (E0 w pb b d o cs ps s j k n x m i).mono λ_ _ ⟨r,q⟩=>q.elim (λh=>z9 u.out h.2) fun⟨a,v,t,y⟩=>⟨a,v,r,t,y⟩
def L5(w:World)(pb:Nat)(k g n:Value)(cs:List zd)(ps:κ)(q:Rz w pb #[k,g,n] 45)(a:Se lo 93 w k cs){b:Nat}(i:R7 b w g ps)(m:∀c∈cs,vT c/\c.body.length<=999)(s:cs.length<=1000)(j:ps.length<=1000)(d:∀c∈cs,∀l∈zm c,l.pred∈ps)(p:Hid (¬∃f,S2 cs f)):
  Calls prog 70 #[(π pb)] w λe u=>e=ε (.bool false)/\RD pb w u:=
 (E0 w pb k g n cs ps q a i m s j d).mono λ_ _ ⟨r,t⟩=>t.elim (λh=>⟨h.1,r⟩) fun⟨_,_,_,o⟩=>z9 ⟨_,o.1⟩ p.out
def Ke(cs:List zd)(k:Nat)(a:k<cs.length):(cs.take (k+1)).flatMap zm=(cs.take k).flatMap zm++zm cs[k]:=by rw[yP a,List.flatMap_append];simp
def I0(s:ByteArray)(w:World)(hs:s.size<=500)(l:κ)(cs:List zd)(h:xw s.size s=some l)(hp:vm l=some cs)(hx:jI cs=0):
  Calls prog 33 #[.string s] w λe w'=>∃r,fh s r/\rg r w e w':=by
 obtain⟨_,_,_,h3,h4⟩:=tW hs h;have aa:=iP hs h hp;have N:=aa.len;have U:=Ry aa;have HW:Hid (∀W,Calls prog 65 #[.string s] W λe w'=>μ W w'/\∃v,e=ε (.tuple #[v,.bool true])/\w'.ownsRow W.heap.size 9 1 v l.length (l.map Value.string)):=λW=>by have:=sX s W hs;rw[h] at this;exact this
 have HC:Hid (∀W v,SV W v l->Calls prog 66 #[v] W λe w'=>μ W w'/\∃v,e=ε (.tuple #[v,.bool true])/\Se W.heap.size 93 w' v cs):=λW v hv=>by have:=i4 W v l hv h4 h3;rw[hp] at this;exact this
 have a0:Hid (∀lo W pb cv v1 v2,Rz W pb #[cv,v1,v2] 45->Se lo 93 W cv cs->Calls prog 67 #[(π pb)] W λe w'=>e=ε (ι 0)/\μ W w'):=λ_ W pb cv v1 v2 h1 h2=>by rw[←hx];exact E4 W pb cv v1 v2 cs h1 h2 aa.ok N
 have aS:Hid ((¬∃f,S2 cs f)->fh s (.error 7)):=λhn=>.strata (by omega) h hp hx hn;have az:Hid (∀p sv,yz p->(∀n,n∈p↔∃x∈cs.flatMap zm,x.pred=n)->sv.length=p.length->Sj cs (vB p sv)->fh s (.ok (cs,p,sv))):=λp sv h1 h2 h3 h4=>.ok (by omega) h hp hx h1 h2 h3 h4;obtain⟨i0,hi,aY,aU,aW⟩:=info_parts QN;clear h hp h4 aa hx;go_enter func33,ntmps33;go_wp2_with (first|(go_at_call 65;refine(HW.out _).mono ?_;rintro e w1 ⟨a9,v1,rfl,aV⟩;clear HW)|(go_at_call 66;refine(HC.out _ _ (SV.of aV)).mono ?_;rintro e w2 ⟨aT,v2,rfl,O⟩;obtain⟨aA,af,rfl⟩:=O.qy;have G:=R5 a9 aT;clear HC)|(go_at_call 67;refine(a0.out _ _ _ _ _ _ (Rz.new _ _ _) (by exact O.below (by repeat'(first|with_reducible(first|apply zR|assumption|apply zN|apply zA|apply zD|apply zS)|go_size)))).mono ?_;rintro e w3 ⟨rfl,aj⟩;have a5:=(Rz.new w2 #[.slice aA cs.length af,ν,ν] 45).below aj;have Y:=(O.below ((zp _ _).alloc (zf _) (.cells #[.slice aA cs.length af,ν,ν] 45))).below aj;have ak:=R5 (G.alloc G.size _) aj;clear a0))
 go_loopw [9,10] (λv8 v9 wr=>∃k:Nat,k<=cs.length/\v9=ι k/\μ w3 wr/\wr.ownsRow w3.heap.size 9 1 v8 ((cs.take k).flatMap zm).length (((cs.take k).flatMap zm).map λx=>Value.string x.pred)) (λ_ i _=>cs.length-(intOf i).toNat);exact⟨0,zv _,rfl,zp _ _,yW _ _ _ _⟩;obtain⟨k,hk,rfl,F,B⟩:=hrel;by_cases am:k<cs.length
 .obtain⟨g,bg,ba,br,bb,rfl,ad⟩:=Y.at k am;have aF:=ad.below F;obtain⟨bt,bn,_,_⟩:=U.out.ok _ (zt am);have an:=Ke cs k am;have ar:=Ry an;have bs:((cs.take k).flatMap zm).length+(zm cs[k]).length<=1000:=by
   have h1:((cs.take (k+1)).flatMap zm).length<=(cs.flatMap zm).length:=by
    conv=>rhs;rw[←jx (k+1) cs,List.flatMap_append,yC]
    omega
   have h2:=U.out.lits;rw[an,yC] at h1;omega
  clear an ad;generalize cs[k]=c at *;obtain⟨bk,bc,rfl⟩:=zq B;have bf:(zm c).length<=1000:=by omega
  generalize (cs.take k).flatMap zm=D at *;generalize aw:zm c=y at *;have aK:=Ry aw;clear aw;obtain⟨w4,rfl⟩:∃w4,w4=wr:=⟨wr,rfl⟩;go_wp2_with (go_at_call 68;refine(tN _ g (k*4) c _ _ _ _ aF (by omega)).mono ?_;rintro e w5 ⟨lv,rfl,T,av⟩;rw[aK.out] at T;obtain⟨aP,a6,rfl⟩:=T.qy)
  obtain⟨xs,aG,aL⟩:=T;have aN:=R5 F av;have ap:=zB B av;go_loopw [9,12] (λv8 aM wj=>∃j:Nat,j<=y.length/\aM=ι j/\μ w3 wj/\wj.ownsRow 0 90 3 (.slice aP y.length a6) y.length xs/\wj.ownsRow w3.heap.size 9 1 v8 (D++y.take j).length ((D++y.take j).map λx=>Value.string x.pred)) (λ_ i _=>y.length-(intOf i).toNat);exact⟨0,zv _,rfl,aN,aG,by simpa using ap⟩;obtain⟨j,hj,rfl,al,ah,u⟩:=hrel;have a7:=al.size;obtain⟨bu,be,rfl⟩:=zq u;by_cases aC:j<y.length
  .obtain⟨va,a1,a2,a3,a4⟩:=aL.at j y[j] (by simp[aC]);obtain⟨gl,aJ,aE,_,bm,a8⟩:=yw ah (by omega);simp at aE;obtain⟨rfl,rfl⟩:=aE;have bi:=a8 _ _ a2;have ay:=yP aC;have ax:(y.take j).length=j:=by rw[qG];omega
   have bh:(D++y.take j).length<=1000:=by rw[yC,ax];omega
   clear a1 a2 a3 a4 a8;generalize y[j]=a at *;have HT:=Ry ay;clear ay ax;have HQ:Hid (D++y.take (j+1)=(D++y.take j)++[a]):=by rw[Hid,HT.out,kz]
   clear HT;generalize (D++y.take j)=q at *;go_wp2_with (at_builtin;refine kA _ _ [.string a.pred] _ rfl (.tmp 54) (.tmp 60) 30 rfl w3.heap.size 9 i0 _ 1 16 underlying30 hi aY aU aW rfl (by decide) _ _ _ rfl u (zp _ _) _ _ rfl (by simp) rfl (by simp[Value.oneCell']) (by omega) (by omega) a7 ?_;intro v' w7 aQ z aZ aH aI bq;clear aZ aH)
   go_roundw;exact⟨j+1,by omega,by go_num,al.trans z,gD u (by decide) ah aI,by rw[HQ.out];simpa using aQ⟩;simp[intOf];omega
  have he:y.take j=y:=xk (by omega);have aq:Hid ((cs.take (k+1)).flatMap zm=D++y.take j):=by rw[Hid,ar.out,he]
  clear he ar;generalize D++y.take j=q at *;go_wp2;go_roundw;exact⟨k+1,by omega,by go_num,al,by rw[aq.out];exact u⟩;simp[intOf];omega
 have he:cs.take k=cs:=xk (by omega);rw[he] at B;have V:=U.out.lits;clear he;generalize ag:cs.flatMap zm=Z at *;have ae:=Ry ag;clear ag;obtain⟨aR,au,rfl⟩:=zq B;have aD:R7 w3.heap.size wr (.slice aR Z.length au) (Z.map zk.pred):=by simpa [R7,Function.comp_def] using B
 have Q:=a5.below F;obtain⟨bp,bo,bd⟩:=Q.boxed;have S:=Y.below F;have ai:Hid (∀c∈cs,vT c/\c.body.length<=999):=λc hc=>⟨(U.out.ok c hc).1,(U.out.ok c hc).2.1⟩;by_cases hS:∃f,S2 cs f
 .have HS:=Ry hS;clear hS;go_wp2_with (first|(go_at_call 69;refine(Ez _ _ (Z.map zk.pred) aD (by simpa using V)).mono ?_;rintro e w6 ⟨v6,p,rfl,R,L,b,m,H⟩;obtain⟨I,o,rfl⟩:=R.qy;have d:=Q.below H;obtain⟨aO,aX,aB⟩:=d.boxed;have J:=S.below H;have ao:=R5 ak (R5 F H);have M:p.length<=1000:=(by simp at m;omega);have E:=(by simpa using d.set 1 (.slice I p.length o));have C:=(RD.refl w2.heap.size w6).setCell 1 (.slice I p.length o);have t:=J.but C d (by decide) (by decide) (by decide);have ab:=R.but C d (by decide);have z:μ w (w6.setCell ⟨w2.heap.size,1,none⟩ (.slice I p.length o)):=ao.setCell G.size _;have X:=Ry (λc hc l hl=>(b _).2 (zE.2 ⟨l,(by rw[←ae.out];exact uP.2 ⟨c,hc,hl⟩),rfl⟩));have P:=Ry (λn=>(b n).trans zE);clear b m)|(go_at_call 70;refine(OB _ w2.heap.size _ _ _ cs p (by exact E) (by exact t) (by exact ab) ai.out N M X.out HS).mono ?_;rintro e w8 ⟨sv,rfl,A,K,ac⟩))
  go_ret2
  exact⟨_,az.out p sv L P.out K.len ac,z.trans (A.below G.size z.size),w2.heap.size,_,_,_,rfl,K.box,(t.but A E (by decide) (by decide) (by decide)).low a9.size,(ab.but A E (by decide)).low (zZ ak.size F.size),by rw[K.len];exact yk K.row z.size,G.size⟩
 have HS:=Ry hS;clear hS;go_wp2_with (first|(go_at_call 69;refine(Ez _ _ (Z.map zk.pred) aD (by simpa using V)).mono ?_;rintro e w6 ⟨v6,p,rfl,R,L,b,m,H⟩;obtain⟨I,o,rfl⟩:=R.qy;have d:=Q.below H;obtain⟨aO,aX,aB⟩:=d.boxed;have J:=S.below H;have ao:=R5 ak (R5 F H);have M:p.length<=1000:=(by simp at m;omega);have E:=(by simpa using d.set 1 (.slice I p.length o));have C:=(RD.refl w2.heap.size w6).setCell 1 (.slice I p.length o);have t:=J.but C d (by decide) (by decide) (by decide);have ab:=R.but C d (by decide);have z:μ w (w6.setCell ⟨w2.heap.size,1,none⟩ (.slice I p.length o)):=ao.setCell G.size _;have X:=Ry (λc hc l hl=>(b _).2 (zE.2 ⟨l,(by rw[←ae.out];exact uP.2 ⟨c,hc,hl⟩),rfl⟩));have P:=Ry (λn=>(b n).trans zE);clear b m)|(go_at_call 70;refine(L5 _ w2.heap.size _ _ _ cs p (by exact E) (by exact t) (by exact ab) ai.out N M X.out HS).mono ?_;rintro e w8 ⟨rfl,A⟩))
 go_ret2
 exact⟨_,aS.out HS.out,z.trans (A.below G.size z.size),rfl⟩
def Br(s:ByteArray)(w:World)(f:s.size<=9223372036854775807):
  Calls prog 33 #[.string s] w λe d=>∃r,fh s r/\rg r w e d:=by
 by_cases b:500<s.size;exact(Ho s w b f).mono λe d h=>⟨_,.long b,h⟩;rcases a:xw s.size s with _|l;exact(KF s w (by omega) a).mono λe d h=>⟨_,.lex b a,h⟩;rcases c:vm l with _|g;exact(N9 s w (by omega) l a c).mono λe d h=>⟨_,.parse b a c,h⟩;by_cases i:jI g=0;exact I0 s w (by omega) l g a c i;exact(IK s w (by omega) l g a c i).mono λe d h=>⟨_,.wrong b a c i,h⟩
end
section
open Go.Proofs.Tryz
variable {s:ByteArray}
def QX:(prog.info? 40).map (λi=>(i.zero,i.size,i.bytes))=some (some (.agg #[.pointer none,.pointer none]),2,16):=by kernel_rfl
def GS{k:Int}(h:ur s=.error k):(k != 0)=true:=by
 unfold ur at h;repeat'(split at h)
 all_goals first|(cases h;rfl)|cases h
def J0{k:Int}(h:ur s=.error k)(w:World)(a:s.size<=9223372036854775807):Calls prog 33 #[.string s] w λe g=>e=ε (.tuple #[.pointer none,ι k])/\μ w g:=
 (Br s w a).mono λ_ _ ⟨r,d,f,c⟩=>by
  have b:=EE d;rw[h] at b;simp only[e8] at b;subst b;exact⟨c,f⟩
def ka(lo:Nat)(w:World)(pb:Nat)(cs:List zd)(t:List zg):Prop:=lo<=pb/\∃a b c,Rz w pb #[a,b,c] 45/\Se lo 93 w a cs/\R7 lo w b (R4 t)/\w.ownsRow lo 3 1 c t.length ((t.map zg.qh).map Sf)
def K5{cs:List zd}{t:List zg}(h:ur s=.ok (cs,t))(w:World)(b:s.size<=9223372036854775807):Calls prog 33 #[.string s] w λe d=>∃a,e=ε (.tuple #[(π a),ι 0])/\ka w.heap.size d a cs t/\μ w d:=
 (Br s w b).mono λ_ _ ⟨r,n,q,j⟩=>by
  have c:=EE n;rw[h] at c;simp only[e8] at c;subst c;obtain⟨a,u,m,i,g,k,l,f,o,p⟩:=j;exact⟨a,g,⟨p,u,m,i,k,l,f,by simpa using o⟩,q⟩
def MX{k:Int}(h:ur s=.error k)(w:World)(a:s.size<=9223372036854775807):Calls prog 32 #[.string s] w λe c=>e=ε (.tuple #[.pointer none,ι k])/\μ w c:=
 (Fd s w a).mono λ_ _ ⟨d,b⟩=>by rw[h] at b;exact⟨b,d⟩
def Qj{cs:List zd}{t:List zg}(h:ur s=.ok (cs,t))(w:World)(b:s.size<=9223372036854775807):Calls prog 32 #[.string s] w λe d=>∃a,e=ε (.tuple #[(π a),ι 0])/\jX w.heap.size d a cs t/\μ w d:=
 (Fd s w b).mono λ_ _ ⟨j,c⟩=>by
  rw[h] at c;obtain⟨a,v,i,f,g,m,k,l⟩:=c;exact⟨a,f,⟨l,v,i,g,m,k⟩,j⟩
end
section
variable {lo:Nat}
def ka.below{w w':World}{pb:Nat}{cs:List zd}{t:List zg}(h:ka lo w pb cs t)(a:μ w w'):ka lo w' pb cs t:=by
 obtain⟨g,j,e,c,f,i,d,b⟩:=h;exact⟨g,j,e,c,f.below a,i.below a,d.below a,zB b a⟩
end
section
open Go.Proofs.Tryz
variable {lo:Nat}
def QV:(prog.info? 30).map (λi=>(i.zero,i.size,i.bytes))=some (some (ν),1,24):=by kernel_rfl
def QG:(prog.info? 9).map (·.size)=some 1:=by kernel_rfl
def OU(a cs:List Value)(h:cs.length=a.length):splice a 0 cs=cs:=by unfold splice;simp[h]
def HY{w:World}{g:Nat}{l:κ}(h:w.heap[g]?=some (.cells (l.map Value.string).toArray 9 (0,0)))(a:lo<=g)(b:l.length<=1000):R7 lo w (.slice (some ⟨g,0,none⟩) l.length l.length) l:=
 ⟨by simp,ze ⟨g,l.length,_,rfl,a,h,zf _,by unfold maxLen;omega,by simp,by rw[Nat.mul_one];exact xk (by simp)⟩⟩
def OC(B:Nat)(w:World)(wb:Nat)(c0 u m t o p q k r s f d h i:Value)(n:Nat)(xs v:List Value)(g:Nat)(l:κ)(e:Ending)(w':World):Prop:=
 e=ε (.bool true)/\∃a c j,Rz w' wb #[c0,u,m,t,o,p,q,k,r,s,a,c,h,i] 35/\w'.ownsRow B 30 1 a (n+1) (xs++[.slice (some ⟨g,0,none⟩) l.length l.length]) ∧
  w'.ownsRow B 30 1 c (n+1) (v++[.slice (some ⟨j,0,none⟩) l.length l.length])/\w.heap.size<=j/\R7 w.heap.size w' (.slice (some ⟨j,0,none⟩) l.length l.length) l ∧
  (a.ownBlock=f.ownBlock∨∃b,a.ownBlock=some b/\w.heap.size<=b)/\(c.ownBlock=d.ownBlock∨∃b,c.ownBlock=some b/\w.heap.size<=b) ∧
  (∀b,a.ownBlock=some b->c.ownBlock≠some b)/\zc (wb::(f.ownBlock.toList++d.ownBlock.toList)) w w'
def JK(B:Nat)(w:World)(wb:Nat)(c0 c1 c2 c3 c4 c5 c6 c7 c8 c9 I J H E:Value)(n:Nat)(xs ys:List Value)(g:Nat)(l:κ)(vb:Value)
  (af:Rz w wb #[c0,c1,c2,c3,c4,c5,c6,c7,c8,c9,I,J,H,E] 35) (h1:w.ownsRow B 30 1 I n xs) (h2:w.ownsRow B 30 1 J n ys) (hB:B<=wb) (V:∀b,I.ownBlock=some b->J.ownBlock≠some b)
  (ha:R7 lo w (.slice (some ⟨g,0,none⟩) l.length l.length) l) {a6:Nat} (f:R7 a6 w vb l) (hl:l.length<=1000) (hn:n<=2000000000000):
  Calls prog 41 #[(π wb),.slice (some ⟨g,0,none⟩) l.length l.length,vb] w λe w'=>OC B w wb c0 c1 c2 c3 c4 c5 c6 c7 c8 c9 I J H E n xs ys g l e w':=by
 obtain⟨i0,hi,az,am,ar⟩:=info_parts QV;obtain⟨G,q,rfl⟩:=zq h1;obtain⟨s,i,rfl⟩:=zq h2;obtain⟨ao,ag,rfl⟩:=f.qy;have aJ:=af.lt;have a0:Hid (Calls prog 44 #[.slice (some ⟨g,0,none⟩) l.length l.length,.slice ao l.length ag] w λe w'=>e=ε (.bool true)/\μ w w'):=Dj w _ _ l ha f (by omega);have aN:=run_make_row' (P:=prog) 30 9 (.string ByteArray.empty) 16 underlying30 QN rfl .i64 .i64 l.length (by omega) (by omega);have U:Hid (∀W,μ w W->0<(l.map Value.string).length->∃ad,ao=some ad/\∀j v,(l.map Value.string)[j]?=some v->W.cell? (ad.add j)=some v):=λW hW hp=>by
  obtain⟨gb,a8,hv,_,aB,a5⟩:=yw f (by simpa using hp);simp at hv;refine⟨⟨gb,0,none⟩,hv.1,λj v hj=>?_⟩;rw[Addr.add_lit,vn,hW.cell (p:=⟨gb,j,none⟩) aB];exact a5 j v hj
 have F:(l.map Value.string).length=l.length:=by simp
 have aq:∀v∈l.map Value.string,v.oneCell'=true:=λv hv=>by obtain⟨x,_,rfl⟩:=zE.1 hv;rfl
 have an:Hid (∀v∈l.map Value.string,v.oneCell'=true):=aq;clear aq;obtain⟨cs,Y⟩:∃cs,cs=l.map Value.string:=⟨_,rfl⟩;have a7:Hid (cs=l.map Value.string):=Y;rw[←Y] at U F an;clear Y;have a1:Hid (0+cs.length<=(madeCells #[Value.string ByteArray.empty] l.length).toList.length):=by rw[Hid,F];simp[size_madeCells]
 have al:Hid (cs.length=Nat.min l.length l.length):=by rw[Hid,F];simp
 go_enter func41,ntmps41;go_wp2_with (first|(go_at_call 44;refine a0.out.mono ?_;rintro e Q ⟨rfl,t⟩;clear a0)|(refine wpList_copy_splice rfl (.tmp 17) (.tmp 18) 30 30 rfl 9 underlying30 QG _ _ _ _ _ _ rfl rfl Q.heap.size 0 (madeCells #[.string ByteArray.empty] l.length).toList 9 (by rw[Array.toArray_toList];exact Rz.new _ _ _) cs al.out (λhp=>⟨rfl,U.out _ (by exact t.alloc t.size _) hp⟩) a1.out an.out w.heap.size w (by exact t.alloc t.size _) t.size ?_;intro w2 ax y;have z:=af.below y;obtain⟨aI,aK,aD⟩:=z.boxed;have T:=zB h1 y;have ai:=zB h2 y;have aO:=y.size)|(at_builtin;have Z:=ah;refine ko (u.setCell ⟨wb,10,none⟩ (.slice c (n+1) a)) _ [.slice (some ⟨Q.heap.size,0,none⟩) l.length l.length] _ rfl (.tmp 34) (.tmp 36) 31 rfl B 30 i0 _ 1 24 underlying31 hi az am ar rfl (by decide) (.slice s n i) n ys rfl Z (zp _ _) _ _ rfl (by simp) rfl (by simp[Value.oneCell']) (by omega) (by omega) a3 ?_;intro v5 O aw C K;obtain⟨m,d,rfl⟩:=zq aw;have r:=R.save C (qK Z R (by decide));obtain⟨aL,aH,aC⟩:=r.boxed;clear Z)|(at_builtin;refine ko w2 _ [.slice (some ⟨g,0,none⟩) l.length l.length] _ rfl (.tmp 23) (.tmp 25) 31 rfl B 30 i0 _ 1 24 underlying31 hi az am ar rfl (by decide) (.slice G n q) n xs rfl T (zp _ _) _ _ rfl (by simp) rfl (by simp[Value.oneCell']) (by omega) (by omega) (by omega) ?_;intro v3 u X A L;obtain⟨c,a,rfl⟩:=zq X;have o:=z.save A (qK T z (by decide));obtain⟨aG,aM,aE⟩:=o.boxed;have aj:=yK ai A (λb f hm=>V b (xb hm) f);have R:Rz (u.setCell ⟨wb,10,none⟩ (.slice c (n+1) a)) wb #[c0,c1,c2,c3,c4,c5,c6,c7,c8,c9,.slice c (n+1) a,.slice s n i,H,E] 35:=(by have Z:=o.set 10 (.slice c (n+1) a);simpa using Z);have ah:=xF aj ((RD.refl wb u).setCell 10 (.slice c (n+1) a)) o (by decide);have av:=xF X ((RD.refl wb u).setCell 10 (.slice c (n+1) a)) o (by decide);have a3:B<=(u.setCell ⟨wb,10,none⟩ (.slice c (n+1) a)).heap.size:=(by rw[show(u.setCell ⟨wb,10,none⟩ (.slice c (n+1) a)).heap.size=u.heap.size from(by simp[World.setCell])];omega)))
 have au:=t.size;have aF:=A.size;have ap:(u.setCell ⟨wb,10,none⟩ (.slice c (n+1) a)).heap.size=u.heap.size:=by simp[World.setCell]
 have a4:=C.size;rw[ap] at a4;have ab:∀b,(Value.slice G n q).ownBlock=some b->b<w.heap.size:=λb f=>yA h1 f;have N:∀b,(Value.slice s n i).ownBlock=some b->b<w.heap.size:=λb f=>yA h2 f;have ac:∀b,(Value.slice c (n+1) a).ownBlock=some b->b<u.heap.size:=λb f=>yA X f;have S:∀b,(Value.slice c (n+1) a).ownBlock=some b->(Value.slice s n i).ownBlock≠some b:=λb f h=>by
  rcases L with k|⟨g3,k,h4⟩;exact V b (k ▸ f) h;rw[k] at f;have:=N b h;simp at f;omega
 have aa:=yK av C (λb f hm=>S b f (xb hm));have a2:Q.heap.size≠wb:=by omega
 have ay:Q.heap.size<w2.heap.size:=(jU.1 ax.out).1;have a9:(O.setCell ⟨wb,11,none⟩ (.slice m (n+1) d)).heap[Q.heap.size]?=w2.heap[Q.heap.size]?:=by
  rw[(zc.set O wb 11 _).block _ (by omega) (by simpa using a2),C.block _ (by rw[ap];omega) (λhm=>by have:=N _ (xb hm);omega),(zc.set u wb 10 _).block _ (by omega) (by simpa using a2),A.block _ ay (λhm=>by have:=ab _ (xb hm);omega)]
 have ae:R7 w.heap.size (O.setCell ⟨wb,11,none⟩ (.slice m (n+1) d)) (.slice (some ⟨Q.heap.size,0,none⟩) l.length l.length) l:=by
  refine HY ?_ au hl;rw[a9,ax.out,OU _ _ (by rw[F];simp[size_madeCells]),a7.out]
 have aA:zc (wb::((Value.slice G n q).ownBlock.toList++(Value.slice s n i).ownBlock.toList)) w (O.setCell ⟨wb,11,none⟩ (.slice m (n+1) d)):=by
  have e1:=(zc.of (M:=wb::((Value.slice G n q).ownBlock.toList++(Value.slice s n i).ownBlock.toList)) y).newer A (λx D=>zh (by simp[D]));have e2:=e1.newer (zc.set u wb 10 (.slice c (n+1) a)) (λx D=>zh (by simp at D;simp[D]));have e3:=e2.newer C (λx D=>zh (by simp[D]));exact e3.newer (zc.set O wb 11 (.slice m (n+1) d)) (λx D=>zh (by simp at D;simp[D]))
 have ak:Rz (O.setCell ⟨wb,11,none⟩ (.slice m (n+1) d)) wb #[c0,c1,c2,c3,c4,c5,c6,c7,c8,c9,.slice c (n+1) a,.slice m (n+1) d,H,E] 35:=by have Z:=r.set 11 (.slice m (n+1) d);simpa using Z
 go_ret;refine⟨rfl,_,_,Q.heap.size,ak,xF aa ((RD.refl wb O).setCell 11 _) r (by decide),xF aw ((RD.refl wb O).setCell 11 _) r (by decide),au,ae,?_,?_,?_,aA⟩;rcases L with k|⟨g3,k,h4⟩;exact zh k;exact ze ⟨g3,k,by omega⟩;rcases K with k|⟨g3,k,h4⟩;exact zh k;exact ze ⟨g3,k,by omega⟩;intro b f h;rcases K with k|⟨g3,k,h4⟩;exact S b f (k ▸ h);have:=ac b f;rw[k] at h;simp at h;omega
end
section
variable {lo:Nat}{s w:World}
def SC(lo:Nat)(s w:World):Prop:=∀b,lo<=b->b<s.heap.size->w.heap[b]?=s.heap[b]?
def rR{e:TypeId}{a:Nat}{v:Value}{n:Nat}{xs:List Value}(h:s.ownsRow lo e a v n xs)(hs:SC lo s w):w.ownsRow lo e a v n xs:=by
 obtain⟨k,d⟩:=h;refine⟨k,?_⟩;rcases d with d|⟨g,b,c,l,f,i,j⟩;exact zh d;refine ze ⟨g,b,c,l,f,?_,j⟩;rw[hs g f (jU.1 i).1];exact i
def Rz.same{b:Nat}{c:Array Value}{T:TypeId}(h:Rz s b c T)(a:lo<=b)(hs:SC lo s w):Rz w b c T:=by
 have:=h.lt;unfold Rz at *;rw[hs b a this];exact h
def R7.same{v:Value}{l:κ}(h:R7 lo s v l)(hs:SC lo s w):R7 lo w v l:=rR h hs
def Sc.same{s w:World}{v:Value}{l:List zk}(h:Sc lo s v l)(hs:SC lo s w):Sc lo w v l:=by
 obtain⟨b,c,a⟩:=h;exact⟨b,rR c hs,a.mono λ_ _ q=>q.same hs⟩
def Se.same{T:TypeId}{s w:World}{v:Value}{l:List zd}(h:Se lo T s v l)(hs:SC lo s w):Se lo T w v l:=by
 obtain⟨b,c,a⟩:=h;exact⟨b,rR c hs,a.mono (λ_ _ q=>q.same hs) (λ_ _ q=>q.same hs)⟩
def jX.same{s w:World}{pb:Nat}{cs:List zd}{t:List zg}(h:jX lo s pb cs t)(hs:SC lo s w):jX lo w pb cs t:=by
 obtain⟨a,v,c,d,e,b⟩:=h;exact⟨a,v,c,d.same a hs,e.same hs,rR b hs⟩
def ka.same{s w:World}{pb:Nat}{cs:List zd}{t:List zg}(h:ka lo s pb cs t)(hs:SC lo s w):ka lo w pb cs t:=by
 obtain⟨a,i,e,c,f,g,d,b⟩:=h;exact⟨a,i,e,c,f.same a hs,g.same hs,d.same hs,rR b hs⟩
def jX.low{a b:Nat}{w:World}{pb:Nat}{cs:List zd}{t:List zg}(h:jX b w pb cs t)(c:a<=b):jX a w pb cs t:=by
 obtain⟨i,v,e,f,g,d⟩:=h;exact⟨by omega,v,e,f,g.low c,yk d c⟩
def ka.low{a b:Nat}{w:World}{pb:Nat}{cs:List zd}{t:List zg}(h:ka b w pb cs t)(c:a<=b):ka a w pb cs t:=by
 obtain⟨l,k,g,e,i,j,f,d⟩:=h;exact⟨by omega,k,g,e,i,j.low c,f.low c,yk d c⟩
structure sR (cs:List zd) (t:List zg):Prop where
 len:cs.length<=1000
 names:t.length<=1000
 fine:∀c∈cs,eG c/\vT c/\c.body.length<=6/\xg (zm c)<=1000
 rise:yz (R4 t)
abbrev lR:=Nat×Nat×List zd×List zg
def IV(B:Nat)(w:World)(a:List Nat)(p:lR):Prop:=∃(lo:Nat) (s:World),B<=lo/\jX lo s p.1 p.2.2.1 p.2.2.2/\ka lo s p.2.1 p.2.2.1 p.2.2.2/\sR p.2.2.1 p.2.2.2/\SC lo s w/\s.heap.size<=w.heap.size/\∀b∈a,b<lo∨s.heap.size<=b
def lV(ps:List lR):List Value:=ps.flatMap λp=>[.pointer (some ⟨p.1,0,none⟩),.pointer (some ⟨p.2.1,0,none⟩)]
abbrev rx:=Nat×Nat×κ
def mD(a:List rx):List Value:=a.map λx=>sl x.1 x.2.2.length
def mu(a:List rx):List Value:=a.map λx=>sl x.2.1 x.2.2.length
def l6(a:List (Nat×Nat)):List Value:=a.map λx=>sl x.1 x.2
def o6:ByteArray:=⟨#[109,105,110,101]⟩
def og(i h:Nat):Value×Value×Value:=(.bool false,.string o6,sl h (i+1))
structure TM where
 ps:List lR
 nr:Nat
 ls:List rx
 lits:List (Nat×Nat)
def Kx(wb:Nat)(c b e d a:Value)(M:TM):List Nat:=
 wb::(c.ownBlock.toList++b.ownBlock.toList++e.ownBlock.toList++d.ownBlock.toList++a.ownBlock.toList++M.ls.map (·.1)++M.ls.map (·.2.1)++M.lits.map (·.1))
def TB(R:List Nat)(a:Value)(M:TM):List Nat:=R++(a.ownBlock.toList++(M.ls.map (·.1)++M.ls.map (·.2.1)))
structure TQ (B:Nat) (w:World) (wb:Nat) (M:TM) (R:List Nat) (psv rowv lsv lwv litv:Value) (ys:List Value):Prop where
 low:B<=wb
 box:Rz w wb #[psv,ν,ν,ν,ι 0,ι 0,ι 0,ν,.bool true,rowv,lsv,lwv,ν,litv] 35
 ps:w.ownsRow B 40 2 psv M.ps.length (lV M.ps)
 row:w.ownsRow B 9 1 rowv M.nr ys
 ls:w.ownsRow B 30 1 lsv M.ls.length (mD M.ls)
 lw:w.ownsRow B 30 1 lwv M.ls.length (mu M.ls)
 lits:w.ownsRow B 91 1 litv M.lits.length (l6 M.lits)
 res:∀b∈R,b<w.heap.size
 sep:∀b,lsv.ownBlock=some b->lwv.ownBlock≠some b
 apart:(TB R rowv M).Nodup
 lists:∀x∈M.ls,R7 B w (sl x.1 x.2.2.length) x.2.2/\R7 B w (sl x.2.1 x.2.2.length) x.2.2/\x.2.2.length<=1000
 own:∀i (h:i<M.lits.length),∃hs:List Nat,hs.length=M.lits[i].2/\M.lits[i].2<=1000/\w.ownsRow B 90 3 (sl M.lits[i].1 M.lits[i].2) M.lits[i].2 (RQ (hs.map (og i)))
 pairs:∀p∈M.ps,IV B w (R++Kx wb psv rowv lsv lwv litv M) p
end
section
variable {lo:Nat}
def TQ.size{B:Nat}{w:World}{wb:Nat}{M:TM}{R:List Nat}{c b e d a:Value}{f:List Value}(h:TQ B w wb M R c b e d a f):B<=w.heap.size:=by have:=h.low;have:=h.box.lt;omega
end
section
variable {lo:Nat}{l:κ}
def R7.mark{w:World}{g:Nat}(h:R7 lo w (sl g l.length) l)(i:Nat)(a:i<l.length)(s:ByteArray):R7 lo (w.setCell ⟨g,i,none⟩ (.string s)) (sl g (l.set i s).length) (l.set i s):=by
 have:=uj h i (by simpa using a) (.string s);unfold R7 sl at *;rw[gx,gA];exact this
def R7.stays{w:World}{g a i:Nat}{u:Value}(h:R7 lo w (sl g l.length) l)(c:g≠a):R7 lo (w.setCell ⟨a,i,none⟩ u) (sl g l.length) l:=
 yK h (zc.set w a i u) (λb d e=>by simp[sl,Value.ownBlock] at d;simp at e;omega)
def Fz{α β:Type}{f:α->β}{l:List α}{k:Nat}(b:k<l.length){x:α}(a:f x=f l[k]):(l.set k x).map f=l.map f:=by
 rw[gA,a,show f l[k]=(l.map f)[k]'(by simpa using b) by simp,sD]
end
section
variable {v:Value}{b:Nat}
abbrev T2:=Nat×Nat
abbrev Sg:=Nat->T2
def xI(own:Sg)(b:Nat):Prop:=own b≠(0,0)
def nu(own:Sg)(v:Value)(t:T2):Sg:=λb=>if v.ownBlock=some b then t else own b
def eT{own:Sg}{t:T2}(h:v.ownBlock=some b):nu own v t b=t:=zb h
def ip{own:Sg}{t:T2}(h:v.ownBlock≠some b):nu own v t b=own b:=za h
def jp(own:Sg)(w w':World):Prop:=∃N,zc N w w'/\∀b∈N,xI own b
def sL{N e:List Nat}{a b c:World}(h:zc N a b)(k:zc e b c):zc (N++e.filter (·<a.heap.size)) a c:=(h.more λx d=>zW.2 (zh d)).newer k λx d=>by
 by_cases f:x<a.heap.size
 .exact zh (zW.2 (ze (xj.2 ⟨d,by simpa using f⟩)))
 .exact ze (by omega)
section
variable {own own':Sg} {w w' w2:World}
def jp.of(h:μ w w'):jp own w w':=⟨[],zc.of h,by simp⟩
def jp.trans(h:jp own w w')(k:jp own' w' w2)(d:∀b,b<w.heap.size->own' b=own b):jp own w w2:=by
 obtain⟨N,g,j⟩:=h;obtain⟨m,l,e⟩:=k;refine⟨_,sL g l,λb a=>?_⟩;rcases zW.1 a with a|a;exact j b a;obtain⟨i,f⟩:=xj.1 a;have c:=e b i;unfold xI at c ⊢;rw[d b (by simpa using f)] at c;exact c
def jp.box(h:jp own w w'){c:Array Value}{T:TypeId}(d:Rz w b c T)(f:own b=(0,0)):Rz w' b c T:=by
 obtain⟨N,e,g⟩:=h;exact d.save e λa=>g b a f
end
abbrev Tl:=Option (TypeId×Nat×Nat×List Value)
structure SL (B:Nat) (own:Sg) (w:World) (wb:Nat) (F:Nat->Tl) (V:Nat->Value):Prop where
 low:∀b,xI own b->B<=b
 box:Rz w wb ((List.range 14).map V).toArray 35
 tag:own wb=(1,0)
 new:∀b,w.heap.size<=b->own b=(0,0)
 row:∀f T s n xs,F f=some (T,s,n,xs)->w.ownsRow B T s (V f) n xs
 tg:∀f b,(V f).ownBlock=some b->own b=(f+2,0)/\b<w.heap.size
def kt(V:Nat->Value)(f:Nat)(v:Value):Nat->Value:=λg=>if g=f then v else V g
section
variable {B:Nat} {own:Sg} {w w' w2:World} {wb:Nat} {F F':Nat->Tl} {V:Nat->Value}
def SL.wlow(h:SL B own w wb F V):B<=wb:=h.low wb (by unfold xI;rw[h.tag];decide)
def SL.size(h:SL B own w wb F V):B<=w.heap.size:=zZ h.wlow (Nat.le_of_lt h.box.lt)
def SL.under(h:SL B own w wb F V)(a:xI own b):b<w.heap.size:=by
 apply Classical.byContradiction;intro q;exact a (h.new b (by omega))
def SL.below(h:SL B own w wb F V)(a:μ w w'):SL B own w' wb F V:=
 ⟨h.low,h.box.below a,h.tag,λb q=>h.new b (zZ a.size q),λf T s n c q=>zB (h.row f T s n c q) a,λf b q=>⟨(h.tg f b q).1,yE (h.tg f b q).2 a.size⟩⟩
def SL.gen{own':Sg}{e:Nat->Value}{N:List Nat}(C:List Nat)(h:SL B own w wb F V)(o:zc N w w')(x:∀b∈N,b=wb∨(∃f∈C,(V f).ownBlock=some b)∨(own b).2≠0)(k:Rz w' wb ((List.range 14).map e).toArray 35)(j:∀b,b<w.heap.size->own' b=own b)(r:∀b,w'.heap.size<=b->own' b=(0,0))(l:∀f,f∉C->e f=V f/\F' f=F f)(p:∀f∈C,(∀T s n d,F' f=some (T,s,n,d)->w'.ownsRow B T s (e f) n d)/\∀b,(e f).ownBlock=some b->own' b=(f+2,0)/\b<w'.heap.size):SL B own' w' wb F' e:=by
 refine⟨λb q=>?_,k,(j wb h.box.lt).trans h.tag,r,λf T s n d q=>?_,λf b q=>?_⟩;by_cases z:b<w.heap.size;exact h.low b (by unfold xI at q ⊢;rw[←j b z];exact q);have:=h.size;omega;by_cases a:f∈C;exact(p f a).1 T s n d q;rw[(l f a).2] at q;rw[(l f a).1];refine yK (h.row f T s n d q) o λb k t=>?_;have c:=(h.tg f b k).1;rcases x b t with rfl|⟨g,u,i⟩|i;rw[h.tag] at c;cases c;rw[(h.tg g b i).1] at c;simp at c;exact a (c ▸ u);rw[c] at i;exact i rfl;by_cases a:f∈C;exact(p f a).2 b q;rw[(l f a).1] at q;obtain⟨y,m⟩:=h.tg f b q;exact⟨(j b m).trans y,yE m o.size⟩
def Ly{f:Nat}{T:TypeId}(h:Rz w b ((List.range 14).map V).toArray T):Rz (w.setCell ⟨b,f,none⟩ v) b ((List.range 14).map (kt V f v)).toArray T:=by
 have q:=h.set f v;have e:((List.range 14).map V).toArray.setIfInBounds f v=((List.range 14).map (kt V f v)).toArray:=by
  rw[List.setIfInBounds_toArray];congr 1;refine j7 (by simp) λi c a=>?_;rw[lg];simp only[xV,fc,kt];split;rename_i e;rw[zb e.symm];rename_i e;rw[za (Ne.symm e)]
 rw[e] at q;exact q
def SL.off(h:SL B own w wb F V){f:Nat}(q:(V f).ownBlock=some b):b≠wb:=λe=>by
 have:=(h.tg f b q).1;rw[e,h.tag] at this;cases this
def SL.put(h:SL B own w wb F V){f:Nat}(y:∀g,g≠f->F' g=F g)(j:∀T s n k,F' f=some (T,s,n,k)->w2.ownsRow B T s v n k)(o:zc (V f).ownBlock.toList w w2)(i:∀b,v.ownBlock=some b->(V f).ownBlock=some b∨(w.heap.size<=b/\b<w2.heap.size)):
  SL B (nu own v (f+2,0)) (w2.setCell ⟨wb,f,none⟩ v) wb F' (kt V f v)/\zc (wb::(V f).ownBlock.toList) w (w2.setCell ⟨wb,f,none⟩ v)/\∀b,b<w.heap.size->nu own v (f+2,0) b=own b:=by
 have d:zc (wb::(V f).ownBlock.toList) w (w2.setCell ⟨wb,f,none⟩ v):=(o.more (λx l=>by simp[l])).trans ((zc.set w2 wb f v).more (λx l=>by simp at l;simp[l]));have u:(w2.setCell ⟨wb,f,none⟩ v).heap.size=w2.heap.size:=by simp[World.setCell]
 have A:=o.size;have z:=h.size;have C:=h.box.lt;have a:∀b,v.ownBlock=some b->b≠wb/\b<w2.heap.size:=λb q=>by
  rcases i b q with c|c;have:=(h.tg f b c).2;exact⟨h.off c,by omega⟩;exact⟨by omega,by omega⟩
 have t:∀b,b<w.heap.size->nu own v (f+2,0) b=own b:=λb q=>by
  by_cases e:v.ownBlock=some b;rw[eT e];rcases i b e with c|c;exact(h.tg f b c).1.symm;omega;exact ip e
 refine⟨h.gen [f] d (λb p=>?_) (Ly (h.box.save o λm=>h.off (xb m) rfl)) t (λb q=>?_) (λg r=>?_) (λg r=>?_),d,t⟩;rcases zy.1 p with e|e;exact zh e;exact ze (zh ⟨f,by simp,xb e⟩);rw[u] at q;rw[ip λe=>by have:=(a b e).2;omega];exact h.new b (by omega);have:g≠f:=by simpa using r
 exact⟨za this,y g this⟩;obtain rfl:g=f:=by simpa using r
 rw[show kt V g v g=v from zb rfl];exact⟨λT s n k q=>yK (j T s n k q) (zc.set w2 wb g v) λb p m=>(a b p).1 (by simpa using m),λb q=>⟨eT q,by rw[u];exact(a b q).2⟩⟩
end
end
section
open Go.Proofs.Tryz
variable {lo:Nat}
def f9(c:Int)(n:Nat):Nat:=if c<0 then(-(c+1)).toNat%n else c.toNat%n
def t9(c:Int){n:Nat}(a:0<n):f9 c n<n:=by unfold f9;split<;>exact Nat.mod_lt _ a
def wt(w:World)(c:Int)(n:Nat)(j:0<n)(f:n<=281474976710656)(h:-9223372036854775808<=c/\c<=9223372036854775807):
  Calls prog 95 #[ι c,ι n] w λe i=>e=ε (ι (f9 c n:Int))/\i=w:=by
 obtain⟨g,d⟩:=h;by_cases b:c<0
 .have a:Hid (-(c+1).tmod (n:Int)=(f9 c n:Int)):=by
   unfold f9;rw[Hid,zb b,←Int.neg_tmod,Int.tmod_eq_emod_of_nonneg (by omega),Int.natCast_emod,Int.toNat_of_nonneg (by omega)]
  go_enter func95,ntmps95;go_wp2;exact zO (v:=ι (-(c+1).tmod (n:Int))) (by simp[results,results95,go_sem]) rfl ⟨by rw[a.out],rfl⟩
 have a:Hid (c%(n:Int)=(f9 c n:Int)):=by unfold f9;rw[Hid,za b,Int.natCast_emod,Int.toNat_of_nonneg (by omega)]
 go_enter func95,ntmps95;go_wp2;exact zO (v:=ι (c%(n:Int))) (by simp[results,results95,go_sem]) rfl ⟨by rw[a.out],rfl⟩
end
section
variable {lo:Nat}
section
variable {P:Program} {ops:Array Oper} {o:Oper} {a:Act} {K:Act->World->Prop} {Q:Exit->Act->World->Prop}
end
def F4(s:ByteArray):∀(n i:Nat) (l:List R8),RH n s i=some l->∀x∈l,x.2.size<=6:=by
 intro n;induction n with
 |zero=>intro i l h;simp[RH] at h;subst h;simp
 |succ n g=>
  intro i l h;by_cases a:i<s.size;cases c:qs (RA s i);generalize d:xp (RA s i) (RA s (i+1))=k;by_cases b:k=0;subst b;rw[wE a c d] at h;exact z9 h (by simp);by_cases f:6<yr s i k-i;rw[tX a c d f] at h;exact z9 h (by simp);rw[tn a c d b f] at h;obtain⟨r,j,rfl⟩:=vK.1 h;intro x e;rcases zy.1 e with rfl|e;rw[ByteArray.size_extract];omega;exact g _ _ j x e;rw[ey a c] at h;exact g _ _ h;rw[rc a] at h;simp at h;subst h;simp
def wa{a:zk}{l:List R8}(h:q7 a l):∃y∈l,y.2=a.pred:=by
 cases h with
 |bare=>exact⟨_,rJ,rfl⟩
 |args=>exact⟨_,rJ,rfl⟩
def Gt{a:zk}{l:List R8}(h:gG a l):∃y∈l,y.2=a.pred:=by
 cases h with
 |qc h=>exact wa h
 |neg _ h=>obtain⟨y,b,e⟩:=wa h;exact⟨y,by simp[b],e⟩
def KI:∀{b:List zk} {l:List R8},g6 b l->∀a∈b,∃y∈l,y.2=a.pred:=by
 intro b l h;induction h with
 |one h=>intro a c;simp at c;subst c;exact Gt h
 |more h _ _ f=>
  intro a c;rcases zy.1 c with rfl|c;obtain⟨y,d,e⟩:=Gt h;exact⟨y,by simp[d],e⟩;obtain⟨y,d,e⟩:=f a c;exact⟨y,by simp[d],e⟩
def LG:∀{cs:List zd} {l:List R8},fy cs l->∀c∈cs,∀a∈zm c,∃y∈l,y.2=a.pred:=by
 intro cs l h;induction h with
 |nil=>intro c f;cases f
 |cons h _ _ i=>
  intro c f a d;rcases zy.1 f with rfl|f;cases h with
  |fact h=>simp[zm] at d;subst d;obtain⟨y,b,e⟩:=wa h;exact⟨y,by simp[b],e⟩
  |rule h _ g=>
   simp only[zm] at d;rcases zy.1 d with rfl|d;obtain⟨y,b,e⟩:=wa h;exact⟨y,by simp[b],e⟩;obtain⟨y,b,e⟩:=KI g a d;exact⟨y,by simp[b],e⟩
  obtain⟨y,b,e⟩:=i c f a d;exact⟨y,by simp[b],e⟩
def FN:∀{b:List zk} {l:zk},l∈b->l.args.length<=xg b
 |[],_,h=>by cases h
 |a::r,l,h=>by
  rcases zy.1 h with rfl|h
  .simp[xg]
  .have:=FN h;simp[xg] at this ⊢;omega
def Jv{s:ByteArray}{cs:List zd}{t:List zg}(h:ur s=.ok (cs,t)):sR cs t:=by
 unfold ur at h;split at h;cases h;rename_i P;split at h;cases h;rename_i n d;split at h;cases h;rename_i a L;split at h;cases h;rename_i I;split at h;cases h;rename_i q u;split at h;split at h;simp only[Except.ok.injEq,yc] at h;obtain⟨rfl,rfl⟩:=h;have f:ub n:=λx F=>(pO d x F).1;have B:xw s.size s=some (zV n):=by rw[sH,d];rfl
 have z:vm (zV n)=some a:=by
  have:=AD s;rw[B,d] at this;simp only[Option.bind_some] at this;rw[this];exact L
 have b:=iP (by omega) B z;have w:=(oM f a).1 z;have A:=(tA u).2;have r:=tY (q.length+1) q a (tx A);have C:q.length<=1000:=by have:=wF _ _ _ u;have:=b.lits;simp only[g5] at *;omega
 refine⟨b.len,?_,λc j=>?_,?_⟩;have:=congrArg List.length r;simp[R4] at this;omega;obtain⟨G,N,K,J⟩:=b.ok c j;have m:c.body.length<=6:=by
  false_or_by_contra
  rename_i O;apply I;rw[gi];refine⟨c,j,?_⟩;have E:6<c.body.length:=by omega
  unfold yM;simp[E]
 refine⟨⟨λl i=>?_,by omega⟩,G,m,K⟩;obtain⟨y,v,e⟩:=LG w c j l i;have p:=F4 s _ _ _ d y v;have o:=(pO d y v).2;refine⟨by rw[←e];exact p,by rw[←e];exact o,?_,λD g=>?_⟩;have:=FN i;omega;obtain⟨M,k,H⟩:=Cr w c j l i D g;exact⟨J l i D g,by rw[←H];exact F4 s _ _ _ d M k⟩;rw[r];exact A.rise;cases h;cases h
end
def Ko(w:World)(a:List Value)(T:TypeId)(b:a.length<=1000):(w.alloc (.cells a.toArray T)).ownsRow w.heap.size T 1 (.slice (some ⟨w.heap.size,0,none⟩) a.length a.length) a.length a:=by
 refine⟨by simp,ze ⟨w.heap.size,a.length,a.toArray,rfl,zf _,?_,zf _,by unfold maxLen;omega,by simp,by simp⟩⟩;show(w.heap.push _)[w.heap.size]?=_;simp
section
open Go.Proofs.Tryz
variable {lo:Nat}
def JS(w:World)(r vb:Value)(o:Option (List Int))(j:qe w r o)(m:qe w vb o)(H:(o.getD []).length<=281474976710656):
  Calls prog 18 #[r,vb] w λe A=>e=ε (.bool true)/\μ w A:=by
 obtain⟨F,C,rfl⟩:=j.qy;obtain⟨B,s,rfl⟩:=m.qy;have D:=Ry λk (h:k<(o.getD []).length)=>j.cell k h;have y:=Ry λk (h:k<(o.getD []).length)=>m.cell k h;clear j m;generalize o.getD []=l at *;go_enter func18,ntmps18;go_wp2;go_loopw [5] (λi wr=>∃k:Nat,k<=l.length/\i=ι k/\μ w wr) (λi _=>l.length-(intOf i).toNat);exact⟨0,zv _,rfl,zp _ _⟩;obtain⟨k,h,rfl,a⟩:=hrel;have t:=a.size;by_cases c:k<l.length
 .obtain⟨g,f,rfl,u,d⟩:=D.out k c;obtain⟨z,G,rfl,n,b⟩:=y.out k c;have v:=zl a u d;have p:=zl a n b;have E:g<wr.heap.size:=by omega
  have q:z<wr.heap.size:=by omega
  clear d b;generalize l[k]=x at *;go_wp2;go_quiet (fail)
  go_wp2;go_roundw;exact⟨k+1,by omega,by go_num,zI a _⟩;simp[intOf];omega
 go_wp2;go_ret;exact⟨rfl,a⟩
end
section
variable {lo:Nat}
def ES:∀(ps:List lR) (k:Nat) (a:k<ps.length),(lV ps)[k*2]?=some (.pointer (some ⟨ps[k].1,0,none⟩))/\(lV ps)[k*2+1]?=some (.pointer (some ⟨ps[k].2.1,0,none⟩))
 |[],k,a=>by simp at a
 |p::r,0,_=>by simp[lV]
 |p::r,k+1,a=>by
  have:=ES r k (by simpa using a);simp only[lV,uA] at this ⊢;rw[show(k+1)*2=k*2+1+1 from by omega,show k*2+1+1+1=k*2+1+1+1 from rfl];simpa using this
end
end Go.Proofs.YteampbddflhngaaGreat
