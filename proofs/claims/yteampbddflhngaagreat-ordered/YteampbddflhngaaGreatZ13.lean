import Derived.Test.YteampbddflhngaaGreatZ09
namespace Go.Proofs.YteampbddflhngaaGreat
set_option linter.all false
set_option maxRecDepth 100000
set_option maxHeartbeats 8000000
open Go.Proofs.Tryz Go.RowKit
section
variable {lo:Nat}
theorem Qu:(prog.info? 165).map (fun i=>(i.zero,i.size,i.bytes))=some (some (.agg #[ι 0,ι 0,ι 0]),3,24):=by kernel_rfl
def jC(rs:List zm):List Value:=rs.flatMap (·.map Rm)
def QO(lo:Nat)(w:World)(v:Value)(rs:List zm):Prop:=w.ownsRow lo 165 3 v rs.length (jC rs)/\∀r∈rs,r.length=3
def uX(B:Nat)(w:World)(c tb:Nat)(row:zm)(a:List zm):Prop:=∃(x y z:Nat) (b:Value),row=[x,y,z]/\B<=c/\Q8 w c #[(π tb),ι x,ι y,ι z,b] 223/\QO B w b a
theorem td{T:zi}{a f v:Nat}(h:y5 T a f=some v):v<T.qf:=by
 unfold y5 at h;split at h
 ·simp only at h;split at h
  ·cases h
  ·simp only[zt] at h;omega
 ·cases h
theorem lQ(T:zi):∀(n a level f:Nat) (row:zm) (b:List zm) (c:zm×List zm),xF T n a level f row b=some c->b.length<=c.2.length
 |0,_,_,_,_,_,_,h=>by simp[xF] at h
 |n+1,a,level,f,row,b,c,h=>by
  unfold xF at h;split at h
  ·simp at h;subst h;simp
  ·rename_i v j;simp only at h;split at h
   ·have:=lQ T n _ _ _ _ _ _ h;simp at this;omega
   ·split at h
    ·exact lQ T n _ _ _ _ _ _ h
    ·split at h
     ·cases h
     ·rename_i e d i;have g:=lQ T n _ _ _ _ _ _ i;have k:=lQ T n _ _ _ _ _ _ h;simp at g;omega
theorem Kc(c:World)(tb:Nat)(T:zi)(fp:List Nat)(ht:zY lo c tb T fp)(g n:Nat)(ih:(∀m,m<n->∀(w:World) (a level:Nat) (row:zm) (h:List zm) (d:zm×List zm),xF T m a level 0 row h=some d->level<3->d.2.length<=1048576->μ c w->uX c.heap.size w g tb row h->Calls prog 127 #[(π g),ι a,ι level] w fun e j=>e=ε (.tuple #[])/\uX c.heap.size j g tb d.1 d.2/\μ c j))(w:World)(a:Nat)(row:zm)(h:List zm)(d:zm×List zm)(P:xF T n a 0 0 row h=some d)(a3:d.2.length<=1048576)(V:μ c w)(E:uX c.heap.size w g tb row h):
  Calls prog 127 #[(π g),ι a,ι 0] w fun e j=>e=ε (.tuple #[])/\uX c.heap.size j g tb d.1 d.2/\μ c j:=by
 have HI:=Q7 ih;clear ih;have HL:Hid (∀W f,μ c W->Calls prog 167 #[(π tb),ι a,ι ((f:Nat):Int)] W fun e j=>e=ε (.tuple #[ι (((y5 T a f).getD 0:Nat):Int),.bool (y5 T a f).isSome])/\j=W):=fun W f hW=>rF W tb T fp a f (ht.below hW);have HD:Hid (∀W v,μ c W->Calls prog 130 #[(π tb),ι a,ι ((v:Nat):Int)] W fun e j=>e=ε (.tuple #[ι (((zG T a v).getD 0:Nat):Int),.bool (zG T a v).isSome])/\j=W):=fun W v hW=>nt W tb T fp a v (ht.below hW);have aD:T.ql<=3:=by obtain⟨nv,ns,h1,_⟩:=ht;exact h1.deep
 have aG:T.qf<=1000:=by obtain⟨nv,ns,h1,_⟩:=ht;exact h1.wide
 have A:∃nv,Q8 c tb #[ι T.qf,ι T.ql,nv,ι T.count] 229:=by obtain⟨nv,ns,h1,_⟩:=ht;exact⟨nv,h1.box⟩
 obtain⟨nv,A⟩:=A;clear ht;have ad:=Q7 E;have R:=Q7 P;obtain⟨x,y,z,rv,ar,t,s,ax,aw⟩:=E;clear ar ax aw P;obtain⟨L,M,Y⟩:=s.boxed;go_enter func127,ntmps127;go_wp2_with (go_at_call 167;refine(HL.out w 0 V).mono ?_;rintro e j ⟨rfl,o⟩;obtain rfl:=o.symm;clear o)
 clear L M Y s;go_loopg [6,7] n (fun k v6 v7 wr=>∃(f:Nat) (I:zm) (b:List zm),v6=ι (((y5 T a f).getD 0:Nat):Int)/\v7=.bool (y5 T a f).isSome/\Hid (uX c.heap.size wr g tb I b)/\Hid (xF T k a 0 f I b=some d)/\k<=n/\μ c wr)
 case atStart=>exact⟨0,row,h,rfl,rfl,ad,R,zg _,V⟩
 case round=>
  clear ad R V t;obtain⟨f,I,b,rfl,rfl,Z,HQ,aF,N⟩:=hrel;have aq:=Z.out;obtain⟨x,y,z,rv,S,t,s,B,ag⟩:=aq;subst S;obtain⟨L,M,Y⟩:=s.boxed;cases gk with
  |zero=>have:=HQ.out;simp[xF] at this
  |succ m=>
   have C:=HQ.out;unfold xF at C;cases hl:y5 T a f with
   |none=>
    rw[hl] at C;simp only[zt] at C;have HE:Hid (d=([x,y,z],b)):=C.symm;clear C hl HQ;simp only[gC,g6];go_wp2;go_end0
    exact⟨rfl,by rw[HE.out];exact Z.out,N⟩
   |some v=>
    rw[hl] at C;simp only at C;have aB:v<=1000:=by have:=td hl;omega
    clear hl HQ;simp only[ux,kc];have ac:Hid (∀W,μ c W->Calls prog 167 #[(π tb),ι a,ι ((v:Int)+1)] W fun e j=>e=ε (.tuple #[ι (((y5 T a (v+1)).getD 0:Nat):Int),.bool (y5 T a (v+1)).isSome])/\j=W):=fun W hW=>by
     have q:=HL.out W (v+1) hW;rw[show((v+1:Nat):Int)=(v:Int)+1 from by omega] at q;exact q
    have l:=s.set 1 (ι v);simp at l;have aa:=A.below N;obtain⟨an,az,av⟩:=aa.boxed;have a8:g≠tb:=(fun e=>by have:=A.lt;omega);by_cases hd:T.ql<=1
    ·rw[zc (by omega)] at C;have J:Hid (xF T m a 0 (v+1) [v,y,z] (b++[[v,y,z]])=some d):=C;have X:=lQ T m _ _ _ _ _ _ C;simp at X;clear C HI HD HL;obtain⟨i0,hi,am,au,ay⟩:=info_parts Qu;obtain⟨ao,ae,rfl⟩:=zp B;have u:(wr.setCell ⟨g,1,none⟩ (ι v)).ownsRow c.heap.size 165 3 (.slice ao b.length ae) b.length (jC b):=xO B ((QJ.refl g wr).setCell 1 _) s (by decide);have G:μ c (wr.setCell ⟨g,1,none⟩ (ι v)):=N.setCell (p:=⟨g,1,none⟩) t _;have al:=G.size;go_wp2;clear L M s B an az av aa Z Y;generalize wr.setCell ⟨g,1,none⟩ (ι v)=wS at *;obtain⟨L,M,a2⟩:=l.boxed;go_region_law (first|(refine dE wS _ [ι v,ι y,ι z] 165 rfl (.tmp 42) (.tmp 47) 161 rfl c.heap.size 165 i0 _ 3 24 underlying161 hi am au ay rfl (by decide) (.slice ao b.length ae) b.length (jC b) (by simp[Act.eval]) u (by exact(by go_grown)) wS.heap.size 1 (by simp[Act.eval]) (by exact Q8.drew (Q8.new _ _ _)) rfl (by simp[Value.oneCell']) (by omega) (by omega) (by omega) ?_;intro v' w2 ah aj a0 aA a4;obtain⟨D,i,rfl⟩:=zp ah;have F:=l.save aj (qv u l (by decide));obtain⟨aC,a9,a7⟩:=F.boxed))
     all_goals
      have U:QO c.heap.size (w2.setCell ⟨g,4,none⟩ (.slice D (b.length+1) i)) (.slice D (b.length+1) i) (b++[[v,y,z]]):=by
       refine⟨?_,fun r hr=>?_⟩
       ·have:=xO ah ((QJ.refl g w2).setCell 4 (.slice D (b.length+1) i)) F (by decide);simpa [jC,Rm] using this
       ·rcases zI.1 hr with q|q
        ·exact ag r q
        ·simp at q;rw[q];rfl
      have O:=F.set 4 (.slice D (b.length+1) i);simp at O;have ab:μ c (w2.setCell ⟨g,4,none⟩ (.slice D (b.length+1) i)):=(G.trans (aj.below (fun x hx=>yV u (yr hx)) al)).setCell (p:=⟨g,4,none⟩) t _;have H:Hid (uX c.heap.size (w2.setCell ⟨g,4,none⟩ (.slice D (b.length+1) i)) g tb [v,y,z] (b++[[v,y,z]])):=⟨_,_,_,_,rfl,t,O,U⟩;go_wp2_with (go_at_call 167;refine(ac.out _ (by exact ab)).mono ?_;rintro e j ⟨rfl,o⟩;obtain rfl:=o.symm)
      go_roundg m
      case measure=>omega
      case rel=>exact⟨v+1,_,_,rfl,rfl,H,J,by omega,ab⟩
    ·have J:=C;rw[za (by omega),za (by omega)] at J;have G:μ c (wr.setCell ⟨g,1,none⟩ (ι v)):=N.setCell (p:=⟨g,1,none⟩) t _;have ak:uX c.heap.size (wr.setCell ⟨g,1,none⟩ (ι v)) g tb [v,y,z] b:=⟨_,_,_,rv,rfl,t,l,xO B ((QJ.refl g wr).setCell 1 _) s (by decide),ag⟩;cases K:xF T m ((zG T a v).getD 0) 1 0 [v,y,z] b with
     |none=>rw[show [x,y,z].set 0 v=[v,y,z] from rfl] at J;rw[K] at J;cases J
     |some rr=>
      rw[show [x,y,z].set 0 v=[v,y,z] from rfl] at J;rw[K] at J;have H3:xF T m a 0 (v+1) rr.1 rr.2=some d:=J;have HW:Hid (Calls prog 127 #[(π g),ι (((zG T a v).getD 0:Nat):Int),ι 1] (wr.setCell ⟨g,1,none⟩ (ι v)) fun e j=>e=ε (.tuple #[])/\uX c.heap.size j g tb rr.1 rr.2/\μ c j):=by
       have q:=HI.out m (by omega) _ _ _ _ _ rr K (by omega) (by have:=lQ T m _ _ _ _ _ _ H3;omega) G ak;rw[show((1:Nat):Int)=1 from rfl] at q;exact q
      have H4:=Q7 H3;clear C J H3 K;have ap:=Q7 (HD.out _ v G);generalize (zG T a v).getD 0=dn at *;generalize (zG T a v).isSome=ds at *;clear HD HI HL;go_wp2_with (first|(go_at_call 130;refine ap.out.mono ?_;rintro e j ⟨rfl,o⟩;obtain rfl:=o.symm)|(go_at_call 127;refine HW.out.mono ?_;rintro e w3 ⟨rfl,Q,ai⟩;have H:=Q7 Q;obtain⟨x3,y3,z3,aE,_,_,af,_,_⟩:=Q;obtain⟨a1,a5,a6⟩:=af.boxed)|(go_at_call 167;refine(ac.out _ ai).mono ?_;rintro e j ⟨rfl,o⟩;obtain rfl:=o.symm))
      go_roundg m
      case measure=>omega
      case rel=>exact⟨v+1,rr.1,rr.2,rfl,rfl,H,H4,by omega,ai⟩
theorem JI(c:World)(tb:Nat)(T:zi)(fp:List Nat)(ht:zY lo c tb T fp)(g n:Nat)(ih:(∀m,m<n->∀(w:World) (a level:Nat) (row:zm) (h:List zm) (d:zm×List zm),xF T m a level 0 row h=some d->level<3->d.2.length<=1048576->μ c w->uX c.heap.size w g tb row h->Calls prog 127 #[(π g),ι a,ι level] w fun e j=>e=ε (.tuple #[])/\uX c.heap.size j g tb d.1 d.2/\μ c j))(w:World)(a:Nat)(row:zm)(h:List zm)(d:zm×List zm)(P:xF T n a 1 0 row h=some d)(a3:d.2.length<=1048576)(V:μ c w)(E:uX c.heap.size w g tb row h):
  Calls prog 127 #[(π g),ι a,ι 1] w fun e j=>e=ε (.tuple #[])/\uX c.heap.size j g tb d.1 d.2/\μ c j:=by
 have HI:=Q7 ih;clear ih;have HL:Hid (∀W f,μ c W->Calls prog 167 #[(π tb),ι a,ι ((f:Nat):Int)] W fun e j=>e=ε (.tuple #[ι (((y5 T a f).getD 0:Nat):Int),.bool (y5 T a f).isSome])/\j=W):=fun W f hW=>rF W tb T fp a f (ht.below hW);have HD:Hid (∀W v,μ c W->Calls prog 130 #[(π tb),ι a,ι ((v:Nat):Int)] W fun e j=>e=ε (.tuple #[ι (((zG T a v).getD 0:Nat):Int),.bool (zG T a v).isSome])/\j=W):=fun W v hW=>nt W tb T fp a v (ht.below hW);have aD:T.ql<=3:=by obtain⟨nv,ns,h1,_⟩:=ht;exact h1.deep
 have aG:T.qf<=1000:=by obtain⟨nv,ns,h1,_⟩:=ht;exact h1.wide
 have A:∃nv,Q8 c tb #[ι T.qf,ι T.ql,nv,ι T.count] 229:=by obtain⟨nv,ns,h1,_⟩:=ht;exact⟨nv,h1.box⟩
 obtain⟨nv,A⟩:=A;clear ht;have ad:=Q7 E;have R:=Q7 P;obtain⟨x,y,z,rv,ar,t,s,ax,aw⟩:=E;clear ar ax aw P;obtain⟨L,M,Y⟩:=s.boxed;go_enter func127,ntmps127;go_wp2_with (go_at_call 167;refine(HL.out w 0 V).mono ?_;rintro e j ⟨rfl,o⟩;obtain rfl:=o.symm;clear o)
 clear L M Y s;go_loopg [6,7] n (fun k v6 v7 wr=>∃(f:Nat) (I:zm) (b:List zm),v6=ι (((y5 T a f).getD 0:Nat):Int)/\v7=.bool (y5 T a f).isSome/\Hid (uX c.heap.size wr g tb I b)/\Hid (xF T k a 1 f I b=some d)/\k<=n/\μ c wr)
 case atStart=>exact⟨0,row,h,rfl,rfl,ad,R,zg _,V⟩
 case round=>
  clear ad R V t;obtain⟨f,I,b,rfl,rfl,Z,HQ,aF,N⟩:=hrel;have aq:=Z.out;obtain⟨x,y,z,rv,S,t,s,B,ag⟩:=aq;subst S;obtain⟨L,M,Y⟩:=s.boxed;cases gk with
  |zero=>have:=HQ.out;simp[xF] at this
  |succ m=>
   have C:=HQ.out;unfold xF at C;cases hl:y5 T a f with
   |none=>
    rw[hl] at C;simp only[zt] at C;have HE:Hid (d=([x,y,z],b)):=C.symm;clear C hl HQ;simp only[gC,g6];go_wp2;go_end0
    exact⟨rfl,by rw[HE.out];exact Z.out,N⟩
   |some v=>
    rw[hl] at C;simp only at C;have aB:v<=1000:=by have:=td hl;omega
    clear hl HQ;simp only[ux,kc];have ac:Hid (∀W,μ c W->Calls prog 167 #[(π tb),ι a,ι ((v:Int)+1)] W fun e j=>e=ε (.tuple #[ι (((y5 T a (v+1)).getD 0:Nat):Int),.bool (y5 T a (v+1)).isSome])/\j=W):=fun W hW=>by
     have q:=HL.out W (v+1) hW;rw[show((v+1:Nat):Int)=(v:Int)+1 from by omega] at q;exact q
    have l:=s.set 2 (ι v);simp at l;have aa:=A.below N;obtain⟨an,az,av⟩:=aa.boxed;have a8:g≠tb:=(fun e=>by have:=A.lt;omega);by_cases hd:T.ql<=2
    ·rw[zc (by omega)] at C;have J:Hid (xF T m a 1 (v+1) [x,v,z] (b++[[x,v,z]])=some d):=C;have X:=lQ T m _ _ _ _ _ _ C;simp at X;clear C HI HD HL;obtain⟨i0,hi,am,au,ay⟩:=info_parts Qu;obtain⟨ao,ae,rfl⟩:=zp B;have u:(wr.setCell ⟨g,2,none⟩ (ι v)).ownsRow c.heap.size 165 3 (.slice ao b.length ae) b.length (jC b):=xO B ((QJ.refl g wr).setCell 2 _) s (by decide);have G:μ c (wr.setCell ⟨g,2,none⟩ (ι v)):=N.setCell (p:=⟨g,2,none⟩) t _;have al:=G.size;go_wp2;clear L M s B an az av aa Z Y;generalize wr.setCell ⟨g,2,none⟩ (ι v)=wS at *;obtain⟨L,M,a2⟩:=l.boxed;go_region_law (first|(refine dE wS _ [ι x,ι v,ι z] 165 rfl (.tmp 42) (.tmp 47) 161 rfl c.heap.size 165 i0 _ 3 24 underlying161 hi am au ay rfl (by decide) (.slice ao b.length ae) b.length (jC b) (by simp[Act.eval]) u (by exact(by go_grown)) wS.heap.size 1 (by simp[Act.eval]) (by exact Q8.drew (Q8.new _ _ _)) rfl (by simp[Value.oneCell']) (by omega) (by omega) (by omega) ?_;intro v' w2 ah aj a0 aA a4;obtain⟨D,i,rfl⟩:=zp ah;have F:=l.save aj (qv u l (by decide));obtain⟨aC,a9,a7⟩:=F.boxed))
     all_goals
      have U:QO c.heap.size (w2.setCell ⟨g,4,none⟩ (.slice D (b.length+1) i)) (.slice D (b.length+1) i) (b++[[x,v,z]]):=by
       refine⟨?_,fun r hr=>?_⟩
       ·have:=xO ah ((QJ.refl g w2).setCell 4 (.slice D (b.length+1) i)) F (by decide);simpa [jC,Rm] using this
       ·rcases zI.1 hr with q|q
        ·exact ag r q
        ·simp at q;rw[q];rfl
      have O:=F.set 4 (.slice D (b.length+1) i);simp at O;have ab:μ c (w2.setCell ⟨g,4,none⟩ (.slice D (b.length+1) i)):=(G.trans (aj.below (fun x hx=>yV u (yr hx)) al)).setCell (p:=⟨g,4,none⟩) t _;have H:Hid (uX c.heap.size (w2.setCell ⟨g,4,none⟩ (.slice D (b.length+1) i)) g tb [x,v,z] (b++[[x,v,z]])):=⟨_,_,_,_,rfl,t,O,U⟩;go_wp2_with (go_at_call 167;refine(ac.out _ (by exact ab)).mono ?_;rintro e j ⟨rfl,o⟩;obtain rfl:=o.symm)
      go_roundg m
      case measure=>omega
      case rel=>exact⟨v+1,_,_,rfl,rfl,H,J,by omega,ab⟩
    ·have J:=C;rw[za (by omega),za (by omega)] at J;have G:μ c (wr.setCell ⟨g,2,none⟩ (ι v)):=N.setCell (p:=⟨g,2,none⟩) t _;have ak:uX c.heap.size (wr.setCell ⟨g,2,none⟩ (ι v)) g tb [x,v,z] b:=⟨_,_,_,rv,rfl,t,l,xO B ((QJ.refl g wr).setCell 2 _) s (by decide),ag⟩;cases K:xF T m ((zG T a v).getD 0) 2 0 [x,v,z] b with
     |none=>rw[show [x,y,z].set 1 v=[x,v,z] from rfl] at J;rw[K] at J;cases J
     |some rr=>
      rw[show [x,y,z].set 1 v=[x,v,z] from rfl] at J;rw[K] at J;have H3:xF T m a 1 (v+1) rr.1 rr.2=some d:=J;have HW:Hid (Calls prog 127 #[(π g),ι (((zG T a v).getD 0:Nat):Int),ι 2] (wr.setCell ⟨g,2,none⟩ (ι v)) fun e j=>e=ε (.tuple #[])/\uX c.heap.size j g tb rr.1 rr.2/\μ c j):=by
       have q:=HI.out m (by omega) _ _ _ _ _ rr K (by omega) (by have:=lQ T m _ _ _ _ _ _ H3;omega) G ak;rw[show((2:Nat):Int)=2 from rfl] at q;exact q
      have H4:=Q7 H3;clear C J H3 K;have ap:=Q7 (HD.out _ v G);generalize (zG T a v).getD 0=dn at *;generalize (zG T a v).isSome=ds at *;clear HD HI HL;go_wp2_with (first|(go_at_call 130;refine ap.out.mono ?_;rintro e j ⟨rfl,o⟩;obtain rfl:=o.symm)|(go_at_call 127;refine HW.out.mono ?_;rintro e w3 ⟨rfl,Q,ai⟩;have H:=Q7 Q;obtain⟨x3,y3,z3,aE,_,_,af,_,_⟩:=Q;obtain⟨a1,a5,a6⟩:=af.boxed)|(go_at_call 167;refine(ac.out _ ai).mono ?_;rintro e j ⟨rfl,o⟩;obtain rfl:=o.symm))
      go_roundg m
      case measure=>omega
      case rel=>exact⟨v+1,rr.1,rr.2,rfl,rfl,H,H4,by omega,ai⟩
theorem IT(c:World)(tb:Nat)(T:zi)(fp:List Nat)(V:zY lo c tb T fp)(i n:Nat)(ih:(∀m,m<n->∀(w:World) (a level:Nat) (row:zm) (g:List zm) (d:zm×List zm),xF T m a level 0 row g=some d->level<3->d.2.length<=1048576->μ c w->uX c.heap.size w i tb row g->Calls prog 127 #[(π i),ι a,ι level] w fun e u=>e=ε (.tuple #[])/\uX c.heap.size u i tb d.1 d.2/\μ c u))(w:World)(a:Nat)(row:zm)(g:List zm)(d:zm×List zm)(K:xF T n a 2 0 row g=some d)(ay:d.2.length<=1048576)(O:μ c w)(B:uX c.heap.size w i tb row g):
  Calls prog 127 #[(π i),ι a,ι 2] w fun e u=>e=ε (.tuple #[])/\uX c.heap.size u i tb d.1 d.2/\μ c u:=by
 have HI:=Q7 ih;clear ih;have HL:Hid (∀W f,μ c W->Calls prog 167 #[(π tb),ι a,ι ((f:Nat):Int)] W fun e u=>e=ε (.tuple #[ι (((y5 T a f).getD 0:Nat):Int),.bool (y5 T a f).isSome])/\u=W):=fun W f hW=>rF W tb T fp a f (V.below hW);have HD:Hid (∀W v,μ c W->Calls prog 130 #[(π tb),ι a,ι ((v:Nat):Int)] W fun e u=>e=ε (.tuple #[ι (((zG T a v).getD 0:Nat):Int),.bool (zG T a v).isSome])/\u=W):=fun W v hW=>nt W tb T fp a v (V.below hW);have av:T.ql<=3:=by obtain⟨U,ns,h1,_⟩:=V;exact h1.deep
 have a7:T.qf<=1000:=by obtain⟨U,ns,h1,_⟩:=V;exact h1.wide
 have s:∃U,Q8 c tb #[ι T.qf,ι T.ql,U,ι T.count] 229:=by obtain⟨U,ns,h1,_⟩:=V;exact⟨U,h1.box⟩
 obtain⟨U,s⟩:=s;clear V;have Z:=Q7 B;have L:=Q7 K;obtain⟨x,y,z,rv,ak,A,j,ap,an⟩:=B;clear ak ap an K;obtain⟨H,I,Q⟩:=j.boxed;go_enter func127,ntmps127;go_wp2_with (go_at_call 167;refine(HL.out w 0 O).mono ?_;rintro e u ⟨rfl,G⟩;obtain rfl:=G.symm;clear G)
 clear H I Q j;go_loopg [6,7] n (fun k v6 v7 wr=>∃(f:Nat) (F:zm) (b:List zm),v6=ι (((y5 T a f).getD 0:Nat):Int)/\v7=.bool (y5 T a f).isSome/\Hid (uX c.heap.size wr i tb F b)/\Hid (xF T k a 2 f F b=some d)/\k<=n/\μ c wr)
 case atStart=>exact⟨0,row,g,rfl,rfl,Z,L,zg _,O⟩
 case round=>
  clear Z L O A;obtain⟨f,F,b,rfl,rfl,S,HQ,a6,R⟩:=hrel;have aj:=S.out;obtain⟨x,y,z,rv,M,A,j,E,au⟩:=aj;subst M;obtain⟨H,I,Q⟩:=j.boxed;cases gk with
  |zero=>have:=HQ.out;simp[xF] at this
  |succ m=>
   have D:=HQ.out;unfold xF at D;cases hl:y5 T a f with
   |none=>
    rw[hl] at D;simp only[zt] at D;have HE:Hid (d=([x,y,z],b)):=D.symm;clear D hl HQ;simp only[gC,g6];go_wp2;go_end0
    exact⟨rfl,by rw[HE.out];exact S.out,R⟩
   |some v=>
    rw[hl] at D;simp only at D;have a4:v<=1000:=by have:=td hl;omega
    clear hl HQ;simp only[ux,kc];have ai:Hid (∀W,μ c W->Calls prog 167 #[(π tb),ι a,ι ((v:Int)+1)] W fun e u=>e=ε (.tuple #[ι (((y5 T a (v+1)).getD 0:Nat):Int),.bool (y5 T a (v+1)).isSome])/\u=W):=fun W hW=>by
     have q:=HL.out W (v+1) hW;rw[show((v+1:Nat):Int)=(v:Int)+1 from by omega] at q;exact q
    have o:=j.set 3 (ι v);simp at o;have X:=s.below R;obtain⟨ah,ar,am⟩:=X.boxed;have a1:i≠tb:=(fun e=>by have:=s.lt;omega);by_cases hd:T.ql<=3
    ·rw[zc (by omega)] at D;have H2:Hid (xF T m a 2 (v+1) [x,y,v] (b++[[x,y,v]])=some d):=D;have P:=lQ T m _ _ _ _ _ _ D;simp at P;clear D HI HD HL;obtain⟨i0,hi,ag,al,aq⟩:=info_parts Qu;obtain⟨ao,aa,rfl⟩:=zp E;have l:(wr.setCell ⟨i,3,none⟩ (ι v)).ownsRow c.heap.size 165 3 (.slice ao b.length aa) b.length (jC b):=xO E ((QJ.refl i wr).setCell 3 _) j (by decide);have ac:μ c (wr.setCell ⟨i,3,none⟩ (ι v)):=R.setCell (p:=⟨i,3,none⟩) A _;have af:=ac.size;go_wp2;clear H I j E ah ar am X S Q;generalize wr.setCell ⟨i,3,none⟩ (ι v)=wS at *;obtain⟨H,I,ax⟩:=o.boxed;go_region_law (first|(refine dE wS _ [ι x,ι y,ι v] 165 rfl (.tmp 42) (.tmp 47) 161 rfl c.heap.size 165 i0 _ 3 24 underlying161 hi ag al aq rfl (by decide) (.slice ao b.length aa) b.length (jC b) (by simp[Act.eval]) l (by exact(by go_grown)) wS.heap.size 1 (by simp[Act.eval]) (by exact Q8.drew (Q8.new _ _ _)) rfl (by simp[Value.oneCell']) (by omega) (by omega) (by omega) ?_;intro v' w2 ab ad aw a3 az;obtain⟨t,h,rfl⟩:=zp ab;have C:=o.save ad (qv l o (by decide));obtain⟨a5,a2,a0⟩:=C.boxed))
     all_goals
      have N:QO c.heap.size (w2.setCell ⟨i,4,none⟩ (.slice t (b.length+1) h)) (.slice t (b.length+1) h) (b++[[x,y,v]]):=by
       refine⟨?_,fun r hr=>?_⟩
       ·have:=xO ab ((QJ.refl i w2).setCell 4 (.slice t (b.length+1) h)) C (by decide);simpa [jC,Rm] using this
       ·rcases zI.1 hr with q|q
        ·exact au r q
        ·simp at q;rw[q];rfl
      have J:=C.set 4 (.slice t (b.length+1) h);simp at J;have Y:μ c (w2.setCell ⟨i,4,none⟩ (.slice t (b.length+1) h)):=(ac.trans (ad.below (fun x hx=>yV l (yr hx)) af)).setCell (p:=⟨i,4,none⟩) A _;have ae:Hid (uX c.heap.size (w2.setCell ⟨i,4,none⟩ (.slice t (b.length+1) h)) i tb [x,y,v] (b++[[x,y,v]])):=⟨_,_,_,_,rfl,A,J,N⟩;go_wp2_with (go_at_call 167;refine(ai.out _ (by exact Y)).mono ?_;rintro e u ⟨rfl,G⟩;obtain rfl:=G.symm)
      go_roundg m
      case measure=>omega
      case rel=>exact⟨v+1,_,_,rfl,rfl,ae,H2,by omega,Y⟩
    ·exact zC av (by omega)
theorem Ss(h:World)(tb:Nat)(T:zi)(fp:List Nat)(k:zY lo h tb T fp)(j:Nat):∀(n:Nat) (w:World) (a level:Nat) (row:zm) (b:List zm) (c:zm×List zm),xF T n a level 0 row b=some c->level<3->c.2.length<=1048576->μ h w->uX h.heap.size w j tb row b →
  Calls prog 127 #[(π j),ι a,ι level] w fun e m=>e=ε (.tuple #[])/\uX h.heap.size m j tb c.1 c.2/\μ h m:=by
 intro n;induction n using Nat.strongRecOn with
 |_ n l=>
  intro w a level row b c f o g i d;obtain rfl|rfl|rfl:level=0∨level=1∨level=2:=by omega
  ·exact Kc h tb T fp k j n l w a row b c f g i d
  ·exact JI h tb T fp k j n l w a row b c f g i d
  ·exact IT h tb T fp k j n l w a row b c f g i d
theorem G3(w:World)(tb:Nat)(T:zi)(fp:List Nat)(m:zY lo w tb T fp)(n:Nat)(rs:List zm)(a:nU n T=some rs)(c:rs.length<=1048576):
  Calls prog 78 #[(π tb)] w fun e k=>∃v,e=.returned v/\QO w.heap.size k v rs/\μ w k:=by
 unfold nU at a;cases j:xF T n 0 0 0 [0,0,0] [] with
 |none=>rw[j] at a;cases a
 |some f=>
  rw[j] at a;simp only[jA,zt] at a;subst a;have hrel:uX w.heap.size (w.alloc (.cells #[(π tb),ι 0,ι 0,ι 0,ν] 223)) w.heap.size tb [0,0,0] []:=⟨0,0,0,_,rfl,zg _,Q8.new _ _ _,yD _ _ _ _,by simp⟩;have o:=Q7 (Ss w tb T fp m w.heap.size n _ 0 0 _ _ f j (by omega) c zT hrel);go_enter func78,ntmps78;go_wp2_with (go_at_call 127;refine o.out.mono ?_;rintro e s ⟨rfl,i,g⟩;obtain⟨x,y,z,r,_,_,h,b⟩:=i;have d:=Q7 b;clear b;obtain⟨p,q,l⟩:=h.boxed)
  go_ret;exact⟨_,rfl,d.out,g⟩
def jI(t:zZ):Value×Value×Value:=(.bool t.var,ι t.num,ι t.level)
structure yh (lo:Nat) (w:World) (v:Value) (ts:List zZ):Prop where
 own:w.ownsRow lo 284 3 v ts.length (QV (ts.map jI))
 len:ts.length<=1000
 num:∀t∈ts,t.num<=1000000/\t.level<=1000000
theorem yh.below{w w':World}{v:Value}{ts:List zZ}(h:yh lo w v ts)(a:μ w w'):yh lo w' v ts:=⟨zB h.own a,h.len,h.num⟩
theorem yh.qx{w:World}{v:Value}{ts:List zZ}(h:yh lo w v ts):∃b a,v=.slice b ts.length a:=zp h.own
theorem yh.cell{w:World}{e:Option Addr}{n cap:Nat}{ts:List zZ}(h:yh lo w (.slice e n cap) ts)(k:Nat)(j:k<ts.length):∃g,e=some ⟨g,0,none⟩/\g<w.heap.size/\w.cell? ⟨g,k*3,none⟩=some (.bool ts[k].var)/\w.cell? ⟨g,k*3+1,none⟩=some (ι (ts[k].num:Nat))/\w.cell? ⟨g,k*3+2,none⟩=some (ι (ts[k].level:Nat)):=by
 obtain⟨g,f,a,_,i,_⟩:=yx h.own (by omega);simp only[Value.slice.injEq] at a;obtain⟨rfl,_,_⟩:=a;obtain⟨_,c,b,d⟩:=en h.own k (by simpa using j);simp only[uJ,jI] at c b d;exact⟨g,rfl,i,c,b,d⟩
theorem Rw{α:Type}(l:List α)(p:α->Bool)(k:Nat)(a:k<l.length):(l.take (k+1)).any p=((l.take k).any p||p l[k]):=by
 rw[yL a,List.any_append];simp
theorem Fo{α:Type}(l:List α)(p:α->Bool)(k:Nat)(a:k<l.length)(h:p l[k]=true):l.any p=true:=gM.2 ⟨_,zs a,h⟩
theorem C1(w:World)(v:Value)(f c:Nat)(ts:List zZ)(h:yh lo w v ts):
  Calls prog 202 #[.agg #[ι f,v],ι c] w fun e z=>e=ε (.bool (zH ⟨f,ts⟩ c))/\μ w z:=by
 obtain⟨I,B,rfl⟩:=h.qx;have G:=h.len;go_enter func202,ntmps202;go_wp2;go_loopw [10] (fun j wr=>∃k:Nat,k<=ts.length/\j=ι k/\Hid ((ts.take k).any (fun t=>t.var&&t.num == c)=false)/\μ w wr) (fun i _=>ts.length-(intOf i).toNat)
 case atStart=>exact⟨0,zv _,rfl,rfl,(by go_grown)⟩
 case round=>
  obtain⟨k,H,rfl,m,a⟩:=hrel;have b:=a.size;by_cases d:k<ts.length
  ·obtain⟨g,rfl,p,x,E,y⟩:=h.cell k d;have l:=zl a p x;have A:=zl a p E;have F:=zl a p y;have q:=Q7 (Rw ts (fun t=>t.var&&t.num == c) k d);have D:=Q7 (Fo ts (fun t=>t.var&&t.num == c) k d);generalize ts[k]=t at *;cases u:t.var with
   |false=>
    rw[u] at l q;go_wp2;go_roundw
    ·exact⟨k+1,by omega,by go_num,(by rw[q.out,m.out];rfl),a.alloc b _⟩
    ·simp[intOf];omega
   |true=>
    by_cases n:t.num=c
    ·have s:Hid (zH ⟨f,ts⟩ c=true):=D.out (by simp[u,n]);subst n;go_wp2;go_ret;exact⟨by rw[s.out];rfl,a.alloc b _⟩
    ·have o:Hid ((t.var&&t.num == c)=false):=by simp[Hid,n]
     have r:Hid ((ts.take (k+1)).any (fun t=>t.var&&t.num == c)=false):=by rw[Hid,q.out,m.out,o.out];rfl
     go_wp2;go_roundw
     ·exact⟨k+1,by omega,by go_num,r,a.alloc b _⟩
     ·simp[intOf];omega
  ·have C:Hid (zH ⟨f,ts⟩ c=false):=by
    have:=m.out;rw[xg (by omega)] at this;exact this
   go_wp2;go_ret;exact⟨by rw[C.out];rfl,a⟩
theorem A8(p:Nat->Bool)(k:Nat):(List.range (k+1)).countP p=(List.range k).countP p+(if p k then 1 else 0):=by
 rw[List.range_succ,List.countP_append];simp[List.countP_cons]
theorem D8(w:World)(v:Value)(a b:Nat)(ts:List zZ)(h:yh lo w v ts)(I:b<=1000000):
  Calls prog 187 #[.agg #[ι a,v],ι b] w fun e E=>e=ε (qU (yQ ⟨a,ts⟩ b))/\μ w E:=by
 have A:=Q7 fun W p m=>C1 W v a p ts (h.below m);cases j:zH ⟨a,ts⟩ b with
 |false=>
  have z:Hid (yQ ⟨a,ts⟩ b=none):=by simp[Hid,yQ,j]
  have u:=Q7 fun W m=>by have q:=A.out W b m;rw[j] at q;exact q
  go_enter func187,ntmps187;go_wp2_with (go_at_call 202;refine(u.out _ (by exact(by go_grown))).mono ?_;rintro e o ⟨rfl,d⟩;have i:μ w o:=zQ (by go_grown) d (zg _))
  go_ret2
  exact⟨by rw[z.out];rfl,i⟩
 |true=>
  have z:Hid (yQ ⟨a,ts⟩ b=some ((List.range b).countP (zH ⟨a,ts⟩))):=by simp[Hid,yQ,j]
  have u:=Q7 fun W m=>by have q:=A.out W b m;rw[j] at q;exact q
  go_enter func187,ntmps187;go_wp2_with (go_at_call 202;refine(u.out _ (by exact(by go_grown))).mono ?_;rintro e o ⟨rfl,d⟩;have i:μ w o:=zQ (by go_grown) d (zg _);have y:=(Q8.new w #[ι a,v] 204).below d)
  go_loopw [6,7] (fun C x wr=>∃k:Nat,k<=b/\x=ι k/\C=ι ((List.range k).countP (zH ⟨a,ts⟩):Nat)/\μ o wr) (fun _ x _=>b-(intOf x).toNat)
  case atStart=>exact⟨0,zv _,rfl,rfl,zo _ _⟩
  case round=>
   obtain⟨k,H,rfl,rfl,c⟩:=hrel;have n:=QB i c;have r:=y.below c;obtain⟨J,G⟩:=r.rules;have B:(List.range k).countP (zH ⟨a,ts⟩)<=k:=by have:=rI (p:=zH ⟨a,ts⟩) (l:=List.range k);simpa using this
   by_cases F:k<b
   ·have t:=A8 (zH ⟨a,ts⟩) k;have s:=Q7 (A.out wr k n);cases j:zH ⟨a,ts⟩ k with
    |false=>
     rw[j] at t s;have f:Hid ((List.range (k+1)).countP (zH ⟨a,ts⟩)=(List.range k).countP (zH ⟨a,ts⟩)):=by rw[Hid,t];simp
     go_wp2_with (go_at_call 202;refine s.out.mono ?_;rintro e D ⟨rfl,g⟩)
     go_roundw
     ·exact⟨k+1,by omega,by go_num,by rw[f.out],QB c g⟩
     ·simp[intOf];omega
    |true=>
     rw[j] at t s;have f:Hid ((List.range (k+1)).countP (zH ⟨a,ts⟩)=(List.range k).countP (zH ⟨a,ts⟩)+1):=by rw[Hid,t];simp
     go_wp2_with (go_at_call 202;refine s.out.mono ?_;rintro e D ⟨rfl,g⟩)
     go_roundw
     ·exact⟨k+1,by omega,by go_num,by rw[f.out];go_num,QB c g⟩
     ·simp[intOf];omega
   ·obtain rfl:k=b:=by omega
    go_wp2;go_ret2
    exact⟨by rw[z.out];rfl,n⟩
theorem Ex(w:World)(v:Value)(a:Nat)(ts:List zZ)(h:yh lo w v ts):
  Calls prog 212 #[.agg #[ι a,v]] w fun e x=>e=ε (ι (yO ⟨a,ts⟩:Nat))/\μ w x:=by
 have A:=Q7 fun W p t=>C1 W v a p ts (h.below t);have o:=Q8.new w #[ι a,v] 204;have z:Hid (yO ⟨a,ts⟩=(List.range 5).countP (zH ⟨a,ts⟩)):=rfl;go_enter func212,ntmps212;go_wp2;go_loopw [3,4] (fun s n wr=>∃k:Nat,k<=5/\n=ι k/\s=ι ((List.range k).countP (zH ⟨a,ts⟩):Nat)/\Below (w.heap.size+1) (w.alloc (.cells #[ι a,v] 204)) wr) (fun _ n _=>5-(intOf n).toNat)
 case atStart=>exact⟨0,zv _,rfl,rfl,zo _ _⟩
 case round=>
  obtain⟨k,C,rfl,rfl,b⟩:=hrel;have f:Below (w.alloc (.cells #[ι a,v] 204)).heap.size (w.alloc (.cells #[ι a,v] 204)) wr:=by simpa using b
  have g:μ w wr:=zQ (by go_grown) f (zg _);have i:=o.below f;obtain⟨D,B⟩:=i.rules;have r:(List.range k).countP (zH ⟨a,ts⟩)<=k:=by have:=rI (p:=zH ⟨a,ts⟩) (l:=List.range k);simpa using this
  by_cases y:k<5
  ·have m:=A8 (zH ⟨a,ts⟩) k;have j:=Q7 (A.out wr k g);cases q:zH ⟨a,ts⟩ k with
   |false=>
    rw[q] at m j;have c:Hid ((List.range (k+1)).countP (zH ⟨a,ts⟩)=(List.range k).countP (zH ⟨a,ts⟩)):=by rw[Hid,m];simp
    go_wp2_with (go_at_call 202;refine j.out.mono ?_;rintro e u ⟨rfl,d⟩)
    go_roundw
    ·exact⟨k+1,by omega,by go_num,by rw[c.out],zQ b d (by simp)⟩
    ·simp[intOf];omega
   |true=>
    rw[q] at m j;have c:Hid ((List.range (k+1)).countP (zH ⟨a,ts⟩)=(List.range k).countP (zH ⟨a,ts⟩)+1):=by rw[Hid,m];simp
    go_wp2_with (go_at_call 202;refine j.out.mono ?_;rintro e u ⟨rfl,d⟩)
    go_roundw
    ·exact⟨k+1,by omega,by go_num,by rw[c.out];go_num,zQ b d (by simp)⟩
    ·simp[intOf];omega
  ·obtain rfl:k=5:=by omega
   go_wp2;go_ret;exact⟨by rw[z.out];rfl,g⟩
theorem rS{α β:Type}(l:List α)(f:β->α->β)(b:β)(k:Nat)(a:k<l.length):(l.take (k+1)).foldl f b=f ((l.take k).foldl f b) l[k]:=by
 rw[yL a,j8];rfl
def ft(k:Nat)(t:zZ):Nat:=if t.var&&decide (t.num≥k) then t.num+1 else k
theorem NR(l:zu):uQ l=l.qg.foldl ft 0:=rfl
theorem Co(w:World)(v:Value)(m:Nat)(ts:List zZ)(h:yh lo w v ts):
  Calls prog 222 #[.agg #[ι m,v]] w fun e x=>e=ε (ι (uQ ⟨m,ts⟩:Nat))/\μ w x:=by
 obtain⟨G,z,rfl⟩:=h.qx;have E:=h.len;have A:Hid (uQ ⟨m,ts⟩=ts.foldl ft 0):=NR _;go_enter func222,ntmps222;go_wp2;go_loopw [3,9] (fun q B wr=>∃k:Nat,k<=ts.length/\B=ι k/\q=ι ((ts.take k).foldl ft 0:Nat)/\μ w wr) (fun _ i _=>ts.length-(intOf i).toNat)
 case atStart=>exact⟨0,zv _,rfl,rfl,(by go_grown)⟩
 case round=>
  obtain⟨k,F,rfl,rfl,a⟩:=hrel;have c:=a.size;by_cases d:k<ts.length
  ·obtain⟨g,rfl,j,p,C,u⟩:=h.cell k d;have D:=zl a j p;have y:=zl a j C;have r:=zl a j u;have s:=(h.num _ (zs d)).1;have l:=Q7 (rS ts ft 0 k d);generalize ts[k]=t at *;generalize (ts.take k).foldl ft 0=f at *;cases n:t.var with
   |false=>
    have b:Hid ((ts.take (k+1)).foldl ft 0=f):=by rw[Hid,l.out];simp[ft,n]
    go_wp2;go_roundw
    ·exact⟨k+1,by omega,by go_num,by rw[b.out],a.alloc c _⟩
    ·simp[intOf];omega
   |true=>
    by_cases o:t.num≥f
    ·have b:Hid ((ts.take (k+1)).foldl ft 0=t.num+1):=by rw[Hid,l.out];simp[ft,n,o]
     go_wp2;go_roundw
     ·exact⟨k+1,by omega,by go_num,by rw[b.out];go_num,a.alloc c _⟩
     ·simp[intOf];omega
    ·have b:Hid ((ts.take (k+1)).foldl ft 0=f):=by rw[Hid,l.out];simp[ft,o]
     go_wp2;go_roundw
     ·exact⟨k+1,by omega,by go_num,by rw[b.out],a.alloc c _⟩
     ·simp[intOf];omega
  ·rw[xg (by omega)];go_wp2;go_ret;exact⟨by rw[A.out];rfl,a⟩
def gD(jd k:Int)(t:zZ):Int:=if t.var&&decide ((t.num:Int)<jd)&&decide ((t.num:Int)>k) then(t.num:Int) else k
theorem Kq(l:zu)(jd:Int):jL l jd=l.qg.foldl (gD jd) (-1):=rfl
theorem CF(w:World)(v:Value)(o:Nat)(d:Int)(ts:List zZ)(h:yh lo w v ts):
  Calls prog 225 #[.agg #[ι o,v],ι d] w fun e z=>e=ε (ι (jL ⟨o,ts⟩ d))/\μ w z:=by
 obtain⟨H,B,rfl⟩:=h.qx;have F:=h.len;have C:Hid (jL ⟨o,ts⟩ d=ts.foldl (gD d) (-1)):=Kq _ _;go_enter func225,ntmps225;go_wp2;go_loopw [5,11] (fun u m wr=>∃k:Nat,k<=ts.length/\m=ι k/\u=ι ((ts.take k).foldl (gD d) (-1))/\μ w wr) (fun _ i _=>ts.length-(intOf i).toNat)
 case atStart=>exact⟨0,zv _,rfl,rfl,(by go_grown)⟩
 case round=>
  obtain⟨k,G,rfl,rfl,a⟩:=hrel;have c:=a.size;by_cases f:k<ts.length
  ·obtain⟨g,rfl,n,s,D,y⟩:=h.cell k f;have E:=zl a n s;have A:=zl a n D;have x:=zl a n y;have l:=Q7 (rS ts (gD d) (-1) k f);generalize ts[k]=t at *;generalize (ts.take k).foldl (gD d) (-1)=j at *;cases p:t.var with
   |false=>
    have b:Hid ((ts.take (k+1)).foldl (gD d) (-1)=j):=by rw[Hid,l.out];simp[gD,p]
    go_wp2;go_roundw
    ·exact⟨k+1,by omega,by go_num,by rw[b.out],a.alloc c _⟩
    ·simp[intOf];omega
   |true=>
    by_cases q:(t.num:Int)<d
    ·by_cases r:(t.num:Int)>j
     ·have b:Hid ((ts.take (k+1)).foldl (gD d) (-1)=(t.num:Int)):=by rw[Hid,l.out];simp[gD,p,q,r]
      go_wp2;go_roundw
      ·exact⟨k+1,by omega,by go_num,by rw[b.out],a.alloc c _⟩
      ·simp[intOf];omega
     ·have b:Hid ((ts.take (k+1)).foldl (gD d) (-1)=j):=by rw[Hid,l.out];simp[gD,r]
      go_wp2;go_roundw
      ·exact⟨k+1,by omega,by go_num,by rw[b.out],a.alloc c _⟩
      ·simp[intOf];omega
    ·have b:Hid ((ts.take (k+1)).foldl (gD d) (-1)=j):=by rw[Hid,l.out];simp[gD,q]
     go_wp2;go_roundw
     ·exact⟨k+1,by omega,by go_num,by rw[b.out],a.alloc c _⟩
     ·simp[intOf];omega
  ·rw[xg (by omega)];go_wp2;go_ret;exact⟨by rw[C.out];rfl,a⟩
theorem DY(w:World)(v:Value)(a:Nat)(d:Int)(ts:List zZ)(h:yh lo w v ts):
  Calls prog 226 #[.agg #[ι a,v],ι d] w fun e p=>e=ε (ι (qD ⟨a,ts⟩ d))/\μ w p:=by
 have m:=Q7 fun W g=>Co W v a ts (h.below g);have n:=Q7 fun W g=>CF W v a d ts (h.below g);have f:Hid (qD ⟨a,ts⟩ d=if (uQ ⟨a,ts⟩:Int)<=d then -1 else jL ⟨a,ts⟩ d):=rfl;generalize uQ ⟨a,ts⟩=o at *;by_cases l:(o:Int)<=d
 ·rw[zc l] at f;go_enter func226,ntmps226;go_wp2_with (go_at_call 222;refine(m.out _ (by exact(by go_grown))).mono ?_;rintro e k ⟨rfl,b⟩;have c:μ w k:=zQ (by go_grown) b (zg _))
  go_ret;exact⟨by rw[f.out];rfl,c⟩
 ·rw[za l] at f;go_enter func226,ntmps226;go_wp2_with (first|(go_at_call 222;refine(m.out _ (by exact(by go_grown))).mono ?_;rintro e k ⟨rfl,b⟩;have c:μ w k:=zQ (by go_grown) b (zg _);have j:=(Q8.new w #[ι a,v] 204).below b;obtain⟨q,t,r⟩:=j.boxed)|(go_at_call 225;refine(n.out _ c).mono ?_;rintro e s ⟨rfl,i⟩))
  go_ret;exact⟨by rw[f.out];rfl,QB c i⟩
theorem Ct(a b:Nat):((a:Int) == (b:Int))=(a == b):=by
 by_cases h:a=b
 ·subst h;rw[beq_self_eq_true,beq_self_eq_true]
 ·rw[beq_eq_false_iff_ne.2 (by omega:(a:Int)≠(b:Int)),beq_eq_false_iff_ne.2 h]
def nT(t:zZ):Value:=.agg #[.bool t.var,ι t.num,ι t.level]
def St(x y z:Nat):Value:=.agg #[ι x,ι y,ι z]
def rE(a b c d e:Nat):Value:=.agg #[ι a,ι b,ι c,ι d,ι e]
theorem i9(w:World)(t:zZ)(a b c d e:Nat):
  Calls prog 188 #[nT t,rE a b c d e] w fun r j=>r=ε (ι (RU t [a,b,c,d,e]:Nat))/\μ w j:=by
 obtain⟨i,n,g⟩:=t;unfold nT rE;simp only;cases i with
 |false=>
  have f:Hid (RU ⟨false,n,g⟩ [a,b,c,d,e]=n):=rfl;go_enter func188,ntmps188;go_wp2;go_ret;exact⟨by rw[f.out];rfl,(by go_grown)⟩
 |true=>
  by_cases h:n<5
  ·have f:Hid (RU ⟨true,n,g⟩ [a,b,c,d,e]=[a,b,c,d,e].getD n 0):=by simp[Hid,RU,h]
   obtain rfl|rfl|rfl|rfl|rfl:n=0∨n=1∨n=2∨n=3∨n=4:=by omega
   all_goals
    go_enter func188,ntmps188;go_wp2;go_ret;exact⟨by rw[f.out];rfl,(by go_grown)⟩
  ·have f:Hid (RU ⟨true,n,g⟩ [a,b,c,d,e]=n):=by simp[Hid,RU,h]
   go_enter func188,ntmps188;go_wp2;go_ret;exact⟨by rw[f.out];rfl,(by go_grown)⟩
theorem wK(w:World)(t:zZ):
  Calls prog 218 #[nT t] w fun r e=>r=ε (.bool (leveled t))/\μ w e:=by
 obtain⟨d,n,b⟩:=t;unfold nT;simp only;cases d with
 |false=>
  have a:Hid (leveled ⟨false,n,b⟩=false):=rfl;go_enter func218,ntmps218;go_wp2;go_ret;exact⟨by rw[a.out];rfl,(by go_grown)⟩
 |true=>
  by_cases c:b<3
  ·have a:Hid (leveled ⟨true,n,b⟩=true):=by simp[Hid,leveled,c]
   go_enter func218,ntmps218;go_wp2;go_ret;exact⟨by rw[a.out];simp;omega,(by go_grown)⟩
  ·have a:Hid (leveled ⟨true,n,b⟩=false):=by simp[Hid,leveled,c]
   go_enter func218,ntmps218;go_wp2;go_ret;exact⟨by rw[a.out];simp;omega,(by go_grown)⟩
theorem ed(w:World)(t:zZ)(v x y z:Nat):
  Calls prog 219 #[nT t,ι v,St x y z] w fun r m=>r=ε (.bool (jy t v [x,y,z]))/\μ w m:=by
 have e:=Q7 fun W=>wK W t;have h:Hid (jy t v [x,y,z]=if leveled t then [x,y,z].getD t.level 0 == v else t.num == v):=rfl;have d:leveled t=true->t.level<3:=by simp[leveled]
 generalize leveled t=p at *;obtain⟨i,n,f⟩:=t;unfold nT at e ⊢;unfold St;simp only at e d h ⊢;cases p with
 |false=>
  go_enter func219,ntmps219;go_wp2_with (go_at_call 218;refine(e.out _).mono ?_;rintro r j ⟨rfl,a⟩;have b:μ w j:=zQ (by go_grown) a (zg _);have c:=((Q8.new w #[.bool i,ι n,ι f] 284).below ((zo _ _).alloc (zg _) (.cells #[ι x,ι y,ι z] 165))).below a;obtain⟨q,k,l⟩:=c.boxed)
  go_ret;exact⟨by rw[h.out];simp[Ct],b⟩
 |true=>
  have A:=d rfl;obtain rfl|rfl|rfl:f=0∨f=1∨f=2:=by omega
  all_goals
   go_enter func219,ntmps219;go_wp2_with (go_at_call 218;refine(e.out _).mono ?_;rintro r j ⟨rfl,a⟩;have b:μ w j:=zQ (by go_grown) a (zg _);have c:=((Q8.new w #[.bool i,ι n,ι _] 284).below ((zo _ _).alloc (zg _) (.cells #[ι x,ι y,ι z] 165))).below a;obtain⟨q,k,l⟩:=c.boxed;have g:=(Q8.newAt (w.alloc (.cells #[.bool i,ι n,ι _] 284)) (w.heap.size+1) #[ι x,ι y,ι z] 165 (by simp)).below a;obtain⟨u,o,s⟩:=g.boxed)
   go_ret;exact⟨by rw[h.out];simp[Ct],b⟩
def mO(l:zu)(vals:List Nat):Nat->Array Value
 |0=>#[ι 0,ι 0,ι 0]
 |1=>#[ι ((Q9 l vals 0:Nat):Int),ι 0,ι 0]
 |2=>#[ι ((Q9 l vals 0:Nat):Int),ι ((Q9 l vals 1:Nat):Int),ι 0]
 |_=>#[ι ((Q9 l vals 0:Nat):Int),ι ((Q9 l vals 1:Nat):Int),ι ((Q9 l vals 2:Nat):Int)]
theorem eD(w:World)(v:Value)(o:Nat)(ts:List zZ)(a b c d e:Nat)(h:yh lo w v ts):
  Calls prog 161 #[.agg #[ι o,v],rE a b c d e] w fun r Y=>r=ε (.agg #[ι ((Q9 ⟨o,ts⟩ [a,b,c,d,e] 0:Nat):Int),ι ((Q9 ⟨o,ts⟩ [a,b,c,d,e] 1:Nat):Int),ι ((Q9 ⟨o,ts⟩ [a,b,c,d,e] 2:Nat):Int)])/\μ w Y:=by
 obtain⟨ao,ad,rfl⟩:=h.qx;have hl:=h.len;unfold rE;go_enter func161,ntmps161;go_wp2;go_loopw [7] (fun v7 wr=>∃k:Nat,k<=3/\v7=ι k/\Q8 wr w.heap.size #[ι o,.slice ao ts.length ad] 204/\Q8 wr (w.heap.size+1) #[ι a,ι b,ι c,ι d,ι e] 262/\Q8 wr (w.heap.size+2) #[ι 0,ι 0,ι 0] 165/\Q8 wr (w.heap.size+3) (mO ⟨o,ts⟩ [a,b,c,d,e] k) 165/\μ w wr) (fun i _=>3-(intOf i).toNat)
 case atStart=>exact⟨0,by omega,rfl,(((Q8.new w _ _).below zT).below zT).below zT,((Q8.newAt _ _ _ _ (by simp)).below zT).below zT,(Q8.newAt _ _ _ _ (by simp)).below zT,Q8.newAt _ _ _ _ (by simp),(by go_grown)⟩
 case round=>
  obtain⟨k,hk,rfl,z,B,A,L,f⟩:=hrel;obtain⟨al,ag,af⟩:=z.boxed;obtain⟨am,aj,ai⟩:=B.boxed;have ae:=f.size;match k,hk with
  |0,_=>
   have j:Q8 wr (w.heap.size+3) #[ι 0,ι 0,ι 0] 165:=L;obtain⟨aa,X,Z⟩:=j.boxed;by_cases u:0<ts.length
   ·obtain⟨g,M,J,P,V,R⟩:=h.cell 0 u;subst M;have G:=zl f J P;have K:=zl f J V;have O:=zl f J R;simp only[Nat.reduceMul,Nat.reduceAdd] at G K O;have ab:g<wr.heap.size:=by omega
    have C:Hid (Q9 ⟨o,ts⟩ [a,b,c,d,e] 0=RU ts[0] [a,b,c,d,e]):=by simp[Hid,Q9,u,List.getD_eq_getElem?_getD]
    have y:Hid (∀W,Calls prog 188 #[.agg #[.bool ts[0].var,ι (ts[0].num:Nat),ι (ts[0].level:Nat)],.agg #[ι a,ι b,ι c,ι d,ι e]] W fun r Y=>r=ε (ι ((Q9 ⟨o,ts⟩ [a,b,c,d,e] 0:Nat):Int))/\μ W Y):=fun W=>by rw[C.out];exact i9 W ts[0] a b c d e
    clear P V R C;generalize ts[0]=t at *;obtain⟨s,x⟩:∃s,s=Q9 ⟨o,ts⟩ [a,b,c,d,e] 0:=⟨_,rfl⟩;rw[←x] at y;have N:=Q7 x.symm;clear x;go_wp2;go_region_with (go_at_call 188;refine(y.out _).mono ?_;rintro r w2 ⟨rfl,E⟩;have l:μ wr w2:=(zQ (by go_grown) E (zg _));have m:=j.below l;obtain⟨U,Q,S⟩:=m.boxed)
    all_goals
     have n:=m.set 0 (ι s);simp at n;have D:=(z.below l).set_ne (show w.heap.size≠w.heap.size+3 from by omega) 0 (ι s);have I:=(B.below l).set_ne (show w.heap.size+1≠w.heap.size+3 from by omega) 0 (ι s);have H:=(A.below l).set_ne (show w.heap.size+2≠w.heap.size+3 from by omega) 0 (ι s);have F:=(QB f l).setCell (p:=⟨w.heap.size+3,0,none⟩) (by simp) (ι s);go_wp2;go_roundw
     case rel=>exact⟨1,by omega,rfl,D,I,H,(by simp only[mO,N.out];exact n),F⟩
     case measure=>simp[intOf]
   ·have C:Hid (Q9 ⟨o,ts⟩ [a,b,c,d,e] 0=0):=by simp[Hid,Q9,u]
    have T:ts.length<=0:=by omega
    go_wp2;go_roundw
    case rel=>exact⟨1,by omega,rfl,z,B,A,(by have q:=j;simp only[mO,C.out];exact q),f⟩
    case measure=>simp[intOf]
  |1,_=>
   have j:Q8 wr (w.heap.size+3) #[ι ((Q9 ⟨o,ts⟩ [a,b,c,d,e] 0:Nat):Int),ι 0,ι 0] 165:=L;obtain⟨aa,X,Z⟩:=j.boxed;by_cases u:1<ts.length
   ·obtain⟨g,M,J,P,V,R⟩:=h.cell 1 u;subst M;have G:=zl f J P;have K:=zl f J V;have O:=zl f J R;simp only[Nat.reduceMul,Nat.reduceAdd] at G K O;have ab:g<wr.heap.size:=by omega
    have C:Hid (Q9 ⟨o,ts⟩ [a,b,c,d,e] 1=RU ts[1] [a,b,c,d,e]):=by simp[Hid,Q9,u,List.getD_eq_getElem?_getD]
    have y:Hid (∀W,Calls prog 188 #[.agg #[.bool ts[1].var,ι (ts[1].num:Nat),ι (ts[1].level:Nat)],.agg #[ι a,ι b,ι c,ι d,ι e]] W fun r Y=>r=ε (ι ((Q9 ⟨o,ts⟩ [a,b,c,d,e] 1:Nat):Int))/\μ W Y):=fun W=>by rw[C.out];exact i9 W ts[1] a b c d e
    clear P V R C;generalize ts[1]=t at *;obtain⟨s,x⟩:∃s,s=Q9 ⟨o,ts⟩ [a,b,c,d,e] 1:=⟨_,rfl⟩;rw[←x] at y;have N:=Q7 x.symm;clear x;go_wp2;go_region_with (go_at_call 188;refine(y.out _).mono ?_;rintro r w2 ⟨rfl,E⟩;have l:μ wr w2:=(zQ (by go_grown) E (zg _));have m:=j.below l;obtain⟨U,Q,S⟩:=m.boxed)
    all_goals
     have n:=m.set 1 (ι s);simp at n;have D:=(z.below l).set_ne (show w.heap.size≠w.heap.size+3 from by omega) 1 (ι s);have I:=(B.below l).set_ne (show w.heap.size+1≠w.heap.size+3 from by omega) 1 (ι s);have H:=(A.below l).set_ne (show w.heap.size+2≠w.heap.size+3 from by omega) 1 (ι s);have F:=(QB f l).setCell (p:=⟨w.heap.size+3,1,none⟩) (by simp) (ι s);go_wp2;go_roundw
     case rel=>exact⟨2,by omega,rfl,D,I,H,(by simp only[mO,N.out];exact n),F⟩
     case measure=>simp[intOf]
   ·have C:Hid (Q9 ⟨o,ts⟩ [a,b,c,d,e] 1=0):=by simp[Hid,Q9,u]
    have T:ts.length<=1:=by omega
    go_wp2;go_roundw
    case rel=>exact⟨2,by omega,rfl,z,B,A,(by have q:=j;simp only[mO,C.out];exact q),f⟩
    case measure=>simp[intOf]
  |2,_=>
   have j:Q8 wr (w.heap.size+3) #[ι ((Q9 ⟨o,ts⟩ [a,b,c,d,e] 0:Nat):Int),ι ((Q9 ⟨o,ts⟩ [a,b,c,d,e] 1:Nat):Int),ι 0] 165:=L;obtain⟨aa,X,Z⟩:=j.boxed;by_cases u:2<ts.length
   ·obtain⟨g,M,J,P,V,R⟩:=h.cell 2 u;subst M;have G:=zl f J P;have K:=zl f J V;have O:=zl f J R;simp only[Nat.reduceMul,Nat.reduceAdd] at G K O;have ab:g<wr.heap.size:=by omega
    have C:Hid (Q9 ⟨o,ts⟩ [a,b,c,d,e] 2=RU ts[2] [a,b,c,d,e]):=by simp[Hid,Q9,u,List.getD_eq_getElem?_getD]
    have y:Hid (∀W,Calls prog 188 #[.agg #[.bool ts[2].var,ι (ts[2].num:Nat),ι (ts[2].level:Nat)],.agg #[ι a,ι b,ι c,ι d,ι e]] W fun r Y=>r=ε (ι ((Q9 ⟨o,ts⟩ [a,b,c,d,e] 2:Nat):Int))/\μ W Y):=fun W=>by rw[C.out];exact i9 W ts[2] a b c d e
    clear P V R C;generalize ts[2]=t at *;obtain⟨s,x⟩:∃s,s=Q9 ⟨o,ts⟩ [a,b,c,d,e] 2:=⟨_,rfl⟩;rw[←x] at y;have N:=Q7 x.symm;clear x;go_wp2;go_region_with (go_at_call 188;refine(y.out _).mono ?_;rintro r w2 ⟨rfl,E⟩;have l:μ wr w2:=(zQ (by go_grown) E (zg _));have m:=j.below l;obtain⟨U,Q,S⟩:=m.boxed)
    all_goals
     have n:=m.set 2 (ι s);simp at n;have D:=(z.below l).set_ne (show w.heap.size≠w.heap.size+3 from by omega) 2 (ι s);have I:=(B.below l).set_ne (show w.heap.size+1≠w.heap.size+3 from by omega) 2 (ι s);have H:=(A.below l).set_ne (show w.heap.size+2≠w.heap.size+3 from by omega) 2 (ι s);have F:=(QB f l).setCell (p:=⟨w.heap.size+3,2,none⟩) (by simp) (ι s);go_wp2;go_roundw
     case rel=>exact⟨3,by omega,rfl,D,I,H,(by simp only[mO,N.out];exact n),F⟩
     case measure=>simp[intOf]
   ·have C:Hid (Q9 ⟨o,ts⟩ [a,b,c,d,e] 2=0):=by simp[Hid,Q9,u]
    have T:ts.length<=2:=by omega
    go_wp2;go_roundw
    case rel=>exact⟨3,by omega,rfl,z,B,A,(by have q:=j;simp only[mO,C.out];exact q),f⟩
    case measure=>simp[intOf]
  |3,_=>
   simp only[mO] at L;obtain⟨aa,X,Z⟩:=L.boxed;obtain⟨ac,ak,ah⟩:=A.boxed;go_wp2;exact zK (v:=.agg #[ι ((Q9 ⟨o,ts⟩ [a,b,c,d,e] 0:Nat):Int),ι ((Q9 ⟨o,ts⟩ [a,b,c,d,e] 1:Nat):Int),ι ((Q9 ⟨o,ts⟩ [a,b,c,d,e] 2:Nat):Int)]) (by simp[results,results161,go_sem,ac]) rfl ⟨rfl,((f.setCell (p:=⟨w.heap.size+2,0,none⟩) (by simp) _).setCell (p:=⟨w.heap.size+2,1,none⟩) (by simp) _).setCell (p:=⟨w.heap.size+2,2,none⟩) (by simp) _⟩
def vl(l:zu)(row:zm):Nat->zm
 |0=>[0,0,0]
 |k+1=>qS l row (vl l row k) k
theorem NI{l:zu}{row f:zm}(a:ul l row=f):x9 l row=if (xw l row f 0&&xw l row f 1&&xw l row f 2)=true then some f else none:=by unfold x9;rw[a]
theorem KR(l:zu)(row:zm):ul l row=vl l row 3:=rfl
theorem Jq(w:World)(v:Value)(B:Nat)(ts:List zZ)(f j r2:Nat)(h:yh lo w v ts):
  Calls prog 213 #[.agg #[ι B,v],St f j r2] w fun r E=>(∃x y z:Nat,r=ε (.tuple #[St x y z,.bool (x9 ⟨B,ts⟩ [f,j,r2]).isSome])/\[x,y,z]=(x9 ⟨B,ts⟩ [f,j,r2]).getD [0,0,0])/\μ w E:=by
 obtain⟨ao,af,rfl⟩:=h.qx;have hl:=h.len;have aC:=PV (ι f) (ι j) (ι r2);have aD:=Qm (ι f) (ι j) (ι r2);have aA:=Qe (ι f) (ι j) (ι r2);unfold St;go_enter func213,ntmps213;go_wp2;go_loopw [12] (fun a7 wr=>∃k x y z:Nat,k<=3/\a7=ι k/\Q8 wr w.heap.size #[ι B,.slice ao ts.length af] 204/\Q8 wr (w.heap.size+1) #[ι f,ι j,ι r2] 165/\Q8 wr (w.heap.size+2) #[ι 0,ι 0,ι 0] 165/\Q8 wr (w.heap.size+3) #[ι (x:Nat),ι (y:Nat),ι (z:Nat)] 165/\Hid (vl ⟨B,ts⟩ [f,j,r2] k=[x,y,z])/\μ w wr) (fun i _=>3-(intOf i).toNat)
 case atStart=>exact⟨0,0,0,0,by omega,rfl,(((Q8.new w _ _).below zT).below zT).below zT,((Q8.newAt _ _ _ _ (by simp)).below zT).below zT,(Q8.newAt _ _ _ _ (by simp)).below zT,Q8.newAt _ _ _ _ (by simp),rfl,(by go_grown)⟩
 case round=>
  obtain⟨k,x,y,z,hk,rfl,n,s,q,m,S,b⟩:=hrel;obtain⟨aw,au,a3⟩:=n.boxed;obtain⟨a4,a1,a0⟩:=s.boxed;obtain⟨a5,a2,ax⟩:=m.boxed;have ar:=b.size;match k,hk with
  |0,_=>
   by_cases D:0<ts.length
   ·have o:Hid (vl ⟨B,ts⟩ [f,j,r2] 1=if leveled ts[0]=true then [x,y,z].set ts[0].level f else [x,y,z]):=by
     rw[Hid,vl,S.out];simp[qS,D,List.getD_eq_getElem?_getD]
    obtain⟨g,R,Q,T,Z,h2⟩:=h.cell 0 D;subst R;have N:=zl b Q T;have M:=zl b Q Z;have I:=zl b Q h2;simp only[Nat.reduceMul,Nat.reduceAdd] at N M I;have C:g<wr.heap.size:=by omega
    have Y:Hid (∀W,Calls prog 218 #[.agg #[.bool ts[0].var,ι (ts[0].num:Nat),ι (ts[0].level:Nat)]] W fun r E=>r=ε (.bool (leveled ts[0]))/\μ W E):=fun W=>wK W ts[0];have O:leveled ts[0]=true->ts[0].level<3:=by simp[leveled]
    clear T Z h2;generalize ts[0]=t at *;generalize leveled t=lb at *;cases lb with
    |false=>
     simp only[gJ,if_false] at o;go_wp2_with (go_at_call 218;refine(Y.out _).mono ?_;rintro r w2 ⟨rfl,c⟩)
     go_roundw
     case rel=>exact⟨1,x,y,z,by omega,rfl,n.below c,s.below c,q.below c,m.below c,o,QB b c⟩
     case measure=>simp[intOf]
    |true=>
     simp only[if_true] at o;have az:=O rfl;clear O;generalize ai:t.level=lv at *;clear ai;go_wp2_with (go_at_call 218;refine(Y.out _).mono ?_;rintro r w2 ⟨rfl,c⟩;have a:=c;have A:=n.below c;obtain⟨U,ac,V⟩:=A.boxed;have aj:=zl c C I;have u:=m.below c;obtain⟨X,ad,aa⟩:=u.boxed;have ak:=(xP C c.size);obtain rfl|rfl|rfl:lv=0∨lv=1∨lv=2:=(by omega))
     ·have J:Hid (vl ⟨B,ts⟩ [f,j,r2] 1=[f,y,z]):=by rw[Hid,o.out];rfl
      have d:=(m.below a).set 0 (ι f);simp at d;have F:=(n.below a).set_ne (show w.heap.size≠w.heap.size+3 from by omega) 0 (ι f);have G:=(s.below a).set_ne (show w.heap.size+1≠w.heap.size+3 from by omega) 0 (ι f);have H:=(q.below a).set_ne (show w.heap.size+2≠w.heap.size+3 from by omega) 0 (ι f);have K:=(QB b a).setCell (p:=⟨w.heap.size+3,0,none⟩) (by simp) (ι f);go_wp2;go_roundw
      case rel=>exact⟨1,f,y,z,by omega,rfl,F,G,H,d,J,K⟩
      case measure=>simp[intOf]
     ·have J:Hid (vl ⟨B,ts⟩ [f,j,r2] 1=[x,f,z]):=by rw[Hid,o.out];rfl
      have d:=(m.below a).set 1 (ι f);simp at d;have F:=(n.below a).set_ne (show w.heap.size≠w.heap.size+3 from by omega) 1 (ι f);have G:=(s.below a).set_ne (show w.heap.size+1≠w.heap.size+3 from by omega) 1 (ι f);have H:=(q.below a).set_ne (show w.heap.size+2≠w.heap.size+3 from by omega) 1 (ι f);have K:=(QB b a).setCell (p:=⟨w.heap.size+3,1,none⟩) (by simp) (ι f);go_wp2;go_roundw
      case rel=>exact⟨1,x,f,z,by omega,rfl,F,G,H,d,J,K⟩
      case measure=>simp[intOf]
     ·have J:Hid (vl ⟨B,ts⟩ [f,j,r2] 1=[x,y,f]):=by rw[Hid,o.out];rfl
      have d:=(m.below a).set 2 (ι f);simp at d;have F:=(n.below a).set_ne (show w.heap.size≠w.heap.size+3 from by omega) 2 (ι f);have G:=(s.below a).set_ne (show w.heap.size+1≠w.heap.size+3 from by omega) 2 (ι f);have H:=(q.below a).set_ne (show w.heap.size+2≠w.heap.size+3 from by omega) 2 (ι f);have K:=(QB b a).setCell (p:=⟨w.heap.size+3,2,none⟩) (by simp) (ι f);go_wp2;go_roundw
      case rel=>exact⟨1,x,y,f,by omega,rfl,F,G,H,d,J,K⟩
      case measure=>simp[intOf]
   ·have o:Hid (vl ⟨B,ts⟩ [f,j,r2] 1=[x,y,z]):=by
     rw[Hid,vl,S.out];simp[qS,D]
    have am:ts.length<=0:=by omega
    go_wp2;go_roundw
    case rel=>exact⟨1,x,y,z,by omega,rfl,n,s,q,m,o,b⟩
    case measure=>simp[intOf]
  |1,_=>
   by_cases D:1<ts.length
   ·have o:Hid (vl ⟨B,ts⟩ [f,j,r2] 2=if leveled ts[1]=true then [x,y,z].set ts[1].level j else [x,y,z]):=by
     rw[Hid,vl,S.out];simp[qS,D,List.getD_eq_getElem?_getD]
    obtain⟨g,R,Q,T,Z,h2⟩:=h.cell 1 D;subst R;have N:=zl b Q T;have M:=zl b Q Z;have I:=zl b Q h2;simp only[Nat.reduceMul,Nat.reduceAdd] at N M I;have C:g<wr.heap.size:=by omega
    have Y:Hid (∀W,Calls prog 218 #[.agg #[.bool ts[1].var,ι (ts[1].num:Nat),ι (ts[1].level:Nat)]] W fun r E=>r=ε (.bool (leveled ts[1]))/\μ W E):=fun W=>wK W ts[1];have O:leveled ts[1]=true->ts[1].level<3:=by simp[leveled]
    clear T Z h2;generalize ts[1]=t at *;generalize leveled t=lb at *;cases lb with
    |false=>
     simp only[gJ,if_false] at o;go_wp2_with (go_at_call 218;refine(Y.out _).mono ?_;rintro r w2 ⟨rfl,c⟩)
     go_roundw
     case rel=>exact⟨2,x,y,z,by omega,rfl,n.below c,s.below c,q.below c,m.below c,o,QB b c⟩
     case measure=>simp[intOf]
    |true=>
     simp only[if_true] at o;have az:=O rfl;clear O;generalize ai:t.level=lv at *;clear ai;go_wp2_with (go_at_call 218;refine(Y.out _).mono ?_;rintro r w2 ⟨rfl,c⟩;have a:=c;have A:=n.below c;obtain⟨U,ac,V⟩:=A.boxed;have aj:=zl c C I;have u:=m.below c;obtain⟨X,ad,aa⟩:=u.boxed;have ak:=(xP C c.size);obtain rfl|rfl|rfl:lv=0∨lv=1∨lv=2:=(by omega))
     ·have J:Hid (vl ⟨B,ts⟩ [f,j,r2] 2=[j,y,z]):=by rw[Hid,o.out];rfl
      have d:=(m.below a).set 0 (ι j);simp at d;have F:=(n.below a).set_ne (show w.heap.size≠w.heap.size+3 from by omega) 0 (ι j);have G:=(s.below a).set_ne (show w.heap.size+1≠w.heap.size+3 from by omega) 0 (ι j);have H:=(q.below a).set_ne (show w.heap.size+2≠w.heap.size+3 from by omega) 0 (ι j);have K:=(QB b a).setCell (p:=⟨w.heap.size+3,0,none⟩) (by simp) (ι j);go_wp2;go_roundw
      case rel=>exact⟨2,j,y,z,by omega,rfl,F,G,H,d,J,K⟩
      case measure=>simp[intOf]
     ·have J:Hid (vl ⟨B,ts⟩ [f,j,r2] 2=[x,j,z]):=by rw[Hid,o.out];rfl
      have d:=(m.below a).set 1 (ι j);simp at d;have F:=(n.below a).set_ne (show w.heap.size≠w.heap.size+3 from by omega) 1 (ι j);have G:=(s.below a).set_ne (show w.heap.size+1≠w.heap.size+3 from by omega) 1 (ι j);have H:=(q.below a).set_ne (show w.heap.size+2≠w.heap.size+3 from by omega) 1 (ι j);have K:=(QB b a).setCell (p:=⟨w.heap.size+3,1,none⟩) (by simp) (ι j);go_wp2;go_roundw
      case rel=>exact⟨2,x,j,z,by omega,rfl,F,G,H,d,J,K⟩
      case measure=>simp[intOf]
     ·have J:Hid (vl ⟨B,ts⟩ [f,j,r2] 2=[x,y,j]):=by rw[Hid,o.out];rfl
      have d:=(m.below a).set 2 (ι j);simp at d;have F:=(n.below a).set_ne (show w.heap.size≠w.heap.size+3 from by omega) 2 (ι j);have G:=(s.below a).set_ne (show w.heap.size+1≠w.heap.size+3 from by omega) 2 (ι j);have H:=(q.below a).set_ne (show w.heap.size+2≠w.heap.size+3 from by omega) 2 (ι j);have K:=(QB b a).setCell (p:=⟨w.heap.size+3,2,none⟩) (by simp) (ι j);go_wp2;go_roundw
      case rel=>exact⟨2,x,y,j,by omega,rfl,F,G,H,d,J,K⟩
      case measure=>simp[intOf]
   ·have o:Hid (vl ⟨B,ts⟩ [f,j,r2] 2=[x,y,z]):=by
     rw[Hid,vl,S.out];simp[qS,D]
    have am:ts.length<=1:=by omega
    go_wp2;go_roundw
    case rel=>exact⟨2,x,y,z,by omega,rfl,n,s,q,m,o,b⟩
    case measure=>simp[intOf]
  |2,_=>
   by_cases D:2<ts.length
   ·have o:Hid (vl ⟨B,ts⟩ [f,j,r2] 3=if leveled ts[2]=true then [x,y,z].set ts[2].level r2 else [x,y,z]):=by
     rw[Hid,vl,S.out];simp[qS,D,List.getD_eq_getElem?_getD]
    obtain⟨g,R,Q,T,Z,h2⟩:=h.cell 2 D;subst R;have N:=zl b Q T;have M:=zl b Q Z;have I:=zl b Q h2;simp only[Nat.reduceMul,Nat.reduceAdd] at N M I;have C:g<wr.heap.size:=by omega
    have Y:Hid (∀W,Calls prog 218 #[.agg #[.bool ts[2].var,ι (ts[2].num:Nat),ι (ts[2].level:Nat)]] W fun r E=>r=ε (.bool (leveled ts[2]))/\μ W E):=fun W=>wK W ts[2];have O:leveled ts[2]=true->ts[2].level<3:=by simp[leveled]
    clear T Z h2;generalize ts[2]=t at *;generalize leveled t=lb at *;cases lb with
    |false=>
     simp only[gJ,if_false] at o;go_wp2_with (go_at_call 218;refine(Y.out _).mono ?_;rintro r w2 ⟨rfl,c⟩)
     go_roundw
     case rel=>exact⟨3,x,y,z,by omega,rfl,n.below c,s.below c,q.below c,m.below c,o,QB b c⟩
     case measure=>simp[intOf]
    |true=>
     simp only[if_true] at o;have az:=O rfl;clear O;generalize ai:t.level=lv at *;clear ai;go_wp2_with (go_at_call 218;refine(Y.out _).mono ?_;rintro r w2 ⟨rfl,c⟩;have a:=c;have A:=n.below c;obtain⟨U,ac,V⟩:=A.boxed;have aj:=zl c C I;have u:=m.below c;obtain⟨X,ad,aa⟩:=u.boxed;have ak:=(xP C c.size);obtain rfl|rfl|rfl:lv=0∨lv=1∨lv=2:=(by omega))
     ·have J:Hid (vl ⟨B,ts⟩ [f,j,r2] 3=[r2,y,z]):=by rw[Hid,o.out];rfl
      have d:=(m.below a).set 0 (ι r2);simp at d;have F:=(n.below a).set_ne (show w.heap.size≠w.heap.size+3 from by omega) 0 (ι r2);have G:=(s.below a).set_ne (show w.heap.size+1≠w.heap.size+3 from by omega) 0 (ι r2);have H:=(q.below a).set_ne (show w.heap.size+2≠w.heap.size+3 from by omega) 0 (ι r2);have K:=(QB b a).setCell (p:=⟨w.heap.size+3,0,none⟩) (by simp) (ι r2);go_wp2;go_roundw
      case rel=>exact⟨3,r2,y,z,by omega,rfl,F,G,H,d,J,K⟩
      case measure=>simp[intOf]
     ·have J:Hid (vl ⟨B,ts⟩ [f,j,r2] 3=[x,r2,z]):=by rw[Hid,o.out];rfl
      have d:=(m.below a).set 1 (ι r2);simp at d;have F:=(n.below a).set_ne (show w.heap.size≠w.heap.size+3 from by omega) 1 (ι r2);have G:=(s.below a).set_ne (show w.heap.size+1≠w.heap.size+3 from by omega) 1 (ι r2);have H:=(q.below a).set_ne (show w.heap.size+2≠w.heap.size+3 from by omega) 1 (ι r2);have K:=(QB b a).setCell (p:=⟨w.heap.size+3,1,none⟩) (by simp) (ι r2);go_wp2;go_roundw
      case rel=>exact⟨3,x,r2,z,by omega,rfl,F,G,H,d,J,K⟩
      case measure=>simp[intOf]
     ·have J:Hid (vl ⟨B,ts⟩ [f,j,r2] 3=[x,y,r2]):=by rw[Hid,o.out];rfl
      have d:=(m.below a).set 2 (ι r2);simp at d;have F:=(n.below a).set_ne (show w.heap.size≠w.heap.size+3 from by omega) 2 (ι r2);have G:=(s.below a).set_ne (show w.heap.size+1≠w.heap.size+3 from by omega) 2 (ι r2);have H:=(q.below a).set_ne (show w.heap.size+2≠w.heap.size+3 from by omega) 2 (ι r2);have K:=(QB b a).setCell (p:=⟨w.heap.size+3,2,none⟩) (by simp) (ι r2);go_wp2;go_roundw
      case rel=>exact⟨3,x,y,r2,by omega,rfl,F,G,H,d,J,K⟩
      case measure=>simp[intOf]
   ·have o:Hid (vl ⟨B,ts⟩ [f,j,r2] 3=[x,y,z]):=by
     rw[Hid,vl,S.out];simp[qS,D]
    have am:ts.length<=2:=by omega
    go_wp2;go_roundw
    case rel=>exact⟨3,x,y,z,by omega,rfl,n,s,q,m,o,b⟩
    case measure=>simp[intOf]
  |3,_=>
   have HM:Hid (x9 ⟨B,ts⟩ [f,j,r2]=if (xw ⟨B,ts⟩ [f,j,r2] [x,y,z] 0&&xw ⟨B,ts⟩ [f,j,r2] [x,y,z] 1&&xw ⟨B,ts⟩ [f,j,r2] [x,y,z] 2)=true then some [x,y,z] else none):=NI ((KR _ _).trans S.out);clear S;rw[show((3:Nat):Int)=3 from rfl];go_wp2;have o:Hid (Q8 wr w.heap.size #[ι B,.slice ao ts.length af] 204/\Q8 wr (w.heap.size+1) #[ι f,ι j,ι r2] 165/\Q8 wr (w.heap.size+2) #[ι 0,ι 0,ι 0] 165/\Q8 wr (w.heap.size+3) #[ι x,ι y,ι z] 165/\μ w wr):=⟨n,s,q,m,b⟩;clear aw au a3 a4 a1 a0 a5 a2 ax ar n s q m b;go_loopw [39] (fun a8 wr=>∃k:Nat,k<=3/\a8=ι k/\Q8 wr w.heap.size #[ι B,.slice ao ts.length af] 204/\Q8 wr (w.heap.size+1) #[ι f,ι j,ι r2] 165/\Q8 wr (w.heap.size+2) #[ι 0,ι 0,ι 0] 165/\Q8 wr (w.heap.size+3) #[ι x,ι y,ι z] 165/\Hid (∀i,i<k->xw ⟨B,ts⟩ [f,j,r2] [x,y,z] i=true)/\μ w wr) (fun i _=>3-(intOf i).toNat)
   case atStart=>
    obtain⟨q1,q2,q3,q4,q5⟩:=o.out;exact⟨0,by omega,rfl,q1,q2,q3,q4,(fun i hi=>by omega),q5⟩
   case round=>
    clear o;obtain⟨k,hk,rfl,n,s,q,m,HA,b⟩:=hrel;obtain⟨aw,au,a3⟩:=n.boxed;obtain⟨a4,a1,a0⟩:=s.boxed;obtain⟨a5,a2,ax⟩:=m.boxed;obtain⟨a6,aB,a9⟩:=q.boxed;have ar:=b.size;match k,hk with
    |0,_=>
     by_cases D:0<ts.length
     ·have L:Hid (xw ⟨B,ts⟩ [f,j,r2] [x,y,z] 0=jy ts[0] f [x,y,z]):=by unfold xw;rw[Hid,decide_eq_false (show ¬ts.length<=0 by omega)];simp[List.getD_eq_getElem?_getD,D]
      obtain⟨g,R,Q,T,Z,h2⟩:=h.cell 0 D;subst R;have N:=zl b Q T;have M:=zl b Q Z;have I:=zl b Q h2;simp only[Nat.reduceMul,Nat.reduceAdd] at N M I;have C:g<wr.heap.size:=by omega
      have aq:(0:Int)<(ts.length:Int):=by omega
      have ag:Hid (∀W,Calls prog 219 #[.agg #[.bool ts[0].var,ι (ts[0].num:Nat),ι (ts[0].level:Nat)],ι f,.agg #[ι x,ι y,ι z]] W fun r E=>r=ε (.bool (jy ts[0] f [x,y,z]))/\μ W E):=fun W=>ed W ts[0] f x y z;clear T Z h2;generalize ts[0]=t at *;generalize jy t f [x,y,z]=ab at *;go_wp2;go_region_held3 (fun E=>E.cell? ⟨w.heap.size,1,none⟩=some (.slice (some ⟨g,0,none⟩) ts.length af)/\E.cell? ⟨g,0,none⟩=some (.bool t.var)/\E.cell? ⟨g,1,none⟩=some (ι t.num)/\E.cell? ⟨g,2,none⟩=some (ι t.level)/\E.cell? ⟨w.heap.size+1+1+1,0,none⟩=some (ι x)/\E.cell? ⟨w.heap.size+1+1+1,1,none⟩=some (ι y)/\E.cell? ⟨w.heap.size+1+1+1,2,none⟩=some (ι z)) (first|go_keep|(go_simp;done)) (first|(go_at_call 219;refine(ag.out _).mono ?_;rintro r w2 ⟨rfl,c⟩;have l:μ wr w2:=(zQ (by go_grown) c (zg _));have A:=n.below l;obtain⟨U,ac,V⟩:=A.boxed;have u:=m.below l;obtain⟨X,ad,aa⟩:=u.boxed;have ay:=zl l C N;have av:=zl l C M;have aj:=(zl l C I)))
      cases ab with
      |true=>
       have P:Hid (∀i,i<1->xw ⟨B,ts⟩ [f,j,r2] [x,y,z] i=true):=fun i hi=>by
        by_cases e:i=0
        ·subst e;exact L.out
        ·exact HA.out i (by omega)
       go_wp2;go_roundw
       case rel=>exact⟨1,by omega,rfl,A,s.below l,q.below l,u,P,QB b l⟩
       case measure=>simp[intOf]
      |false=>
       have S:Hid (x9 ⟨B,ts⟩ [f,j,r2]=none):=by rw[Hid,HM.out,L.out];simp
       have ah:=q.below l;obtain⟨ae,ap,an⟩:=ah.boxed;go_wp2;exact zK (v:=.tuple #[.agg #[ι 0,ι 0,ι 0],.bool false]) (by simp[results,results213,go_sem,ae]) rfl ⟨⟨0,0,0,by rw[S.out];rfl,by rw[S.out];rfl⟩,(((QB b l).setCell (p:=⟨w.heap.size+2,0,none⟩) (by simp) _).setCell (p:=⟨w.heap.size+2,1,none⟩) (by simp) _).setCell (p:=⟨w.heap.size+2,2,none⟩) (by simp) _⟩
     ·have L:Hid (xw ⟨B,ts⟩ [f,j,r2] [x,y,z] 0=true):=by unfold xw;rw[Hid,decide_eq_true (show ts.length<=0 by omega)];rfl
      have P:Hid (∀i,i<1->xw ⟨B,ts⟩ [f,j,r2] [x,y,z] i=true):=fun i hi=>by
       by_cases e:i=0
       ·subst e;exact L.out
       ·exact HA.out i (by omega)
      have al:decide ((0:Int)<(ts.length:Int))=false:=decide_eq_false (by omega);go_wp2;go_quiet (fail)
      go_wp2;go_roundw
      case rel=>exact⟨1,by omega,rfl,n.below (zJ (zo _ _) _),s.below (zJ (zo _ _) _),q.below (zJ (zo _ _) _),m.below (zJ (zo _ _) _),P,zJ b _⟩
      case measure=>simp[intOf]
    |1,_=>
     by_cases D:1<ts.length
     ·have L:Hid (xw ⟨B,ts⟩ [f,j,r2] [x,y,z] 1=jy ts[1] j [x,y,z]):=by unfold xw;rw[Hid,decide_eq_false (show ¬ts.length<=1 by omega)];simp[List.getD_eq_getElem?_getD,D]
      obtain⟨g,R,Q,T,Z,h2⟩:=h.cell 1 D;subst R;have N:=zl b Q T;have M:=zl b Q Z;have I:=zl b Q h2;simp only[Nat.reduceMul,Nat.reduceAdd] at N M I;have C:g<wr.heap.size:=by omega
      have aq:(1:Int)<(ts.length:Int):=by omega
      have ag:Hid (∀W,Calls prog 219 #[.agg #[.bool ts[1].var,ι (ts[1].num:Nat),ι (ts[1].level:Nat)],ι j,.agg #[ι x,ι y,ι z]] W fun r E=>r=ε (.bool (jy ts[1] j [x,y,z]))/\μ W E):=fun W=>ed W ts[1] j x y z;clear T Z h2;generalize ts[1]=t at *;generalize jy t j [x,y,z]=ab at *;go_wp2;go_region_held3 (fun E=>E.cell? ⟨w.heap.size,1,none⟩=some (.slice (some ⟨g,0,none⟩) ts.length af)/\E.cell? ⟨g,3,none⟩=some (.bool t.var)/\E.cell? ⟨g,4,none⟩=some (ι t.num)/\E.cell? ⟨g,5,none⟩=some (ι t.level)/\E.cell? ⟨w.heap.size+1+1+1,0,none⟩=some (ι x)/\E.cell? ⟨w.heap.size+1+1+1,1,none⟩=some (ι y)/\E.cell? ⟨w.heap.size+1+1+1,2,none⟩=some (ι z)) (first|go_keep|(go_simp;done)) (first|(go_at_call 219;refine(ag.out _).mono ?_;rintro r w2 ⟨rfl,c⟩;have l:μ wr w2:=(zQ (by go_grown) c (zg _));have A:=n.below l;obtain⟨U,ac,V⟩:=A.boxed;have u:=m.below l;obtain⟨X,ad,aa⟩:=u.boxed;have ay:=zl l C N;have av:=zl l C M;have aj:=(zl l C I)))
      cases ab with
      |true=>
       have P:Hid (∀i,i<2->xw ⟨B,ts⟩ [f,j,r2] [x,y,z] i=true):=fun i hi=>by
        by_cases e:i=1
        ·subst e;exact L.out
        ·exact HA.out i (by omega)
       go_wp2;go_roundw
       case rel=>exact⟨2,by omega,rfl,A,s.below l,q.below l,u,P,QB b l⟩
       case measure=>simp[intOf]
      |false=>
       have S:Hid (x9 ⟨B,ts⟩ [f,j,r2]=none):=by rw[Hid,HM.out,L.out];simp
       have ah:=q.below l;obtain⟨ae,ap,an⟩:=ah.boxed;go_wp2;exact zK (v:=.tuple #[.agg #[ι 0,ι 0,ι 0],.bool false]) (by simp[results,results213,go_sem,ae]) rfl ⟨⟨0,0,0,by rw[S.out];rfl,by rw[S.out];rfl⟩,(((QB b l).setCell (p:=⟨w.heap.size+2,0,none⟩) (by simp) _).setCell (p:=⟨w.heap.size+2,1,none⟩) (by simp) _).setCell (p:=⟨w.heap.size+2,2,none⟩) (by simp) _⟩
     ·have L:Hid (xw ⟨B,ts⟩ [f,j,r2] [x,y,z] 1=true):=by unfold xw;rw[Hid,decide_eq_true (show ts.length<=1 by omega)];rfl
      have P:Hid (∀i,i<2->xw ⟨B,ts⟩ [f,j,r2] [x,y,z] i=true):=fun i hi=>by
       by_cases e:i=1
       ·subst e;exact L.out
       ·exact HA.out i (by omega)
      have al:decide ((1:Int)<(ts.length:Int))=false:=decide_eq_false (by omega);go_wp2;go_quiet (fail)
      go_wp2;go_roundw
      case rel=>exact⟨2,by omega,rfl,n.below (zJ (zo _ _) _),s.below (zJ (zo _ _) _),q.below (zJ (zo _ _) _),m.below (zJ (zo _ _) _),P,zJ b _⟩
      case measure=>simp[intOf]
    |2,_=>
     by_cases D:2<ts.length
     ·have L:Hid (xw ⟨B,ts⟩ [f,j,r2] [x,y,z] 2=jy ts[2] r2 [x,y,z]):=by unfold xw;rw[Hid,decide_eq_false (show ¬ts.length<=2 by omega)];simp[List.getD_eq_getElem?_getD,D]
      obtain⟨g,R,Q,T,Z,h2⟩:=h.cell 2 D;subst R;have N:=zl b Q T;have M:=zl b Q Z;have I:=zl b Q h2;simp only[Nat.reduceMul,Nat.reduceAdd] at N M I;have C:g<wr.heap.size:=by omega
      have aq:(2:Int)<(ts.length:Int):=by omega
      have ag:Hid (∀W,Calls prog 219 #[.agg #[.bool ts[2].var,ι (ts[2].num:Nat),ι (ts[2].level:Nat)],ι r2,.agg #[ι x,ι y,ι z]] W fun r E=>r=ε (.bool (jy ts[2] r2 [x,y,z]))/\μ W E):=fun W=>ed W ts[2] r2 x y z;clear T Z h2;generalize ts[2]=t at *;generalize jy t r2 [x,y,z]=ab at *;go_wp2;go_region_held3 (fun E=>E.cell? ⟨w.heap.size,1,none⟩=some (.slice (some ⟨g,0,none⟩) ts.length af)/\E.cell? ⟨g,6,none⟩=some (.bool t.var)/\E.cell? ⟨g,7,none⟩=some (ι t.num)/\E.cell? ⟨g,8,none⟩=some (ι t.level)/\E.cell? ⟨w.heap.size+1+1+1,0,none⟩=some (ι x)/\E.cell? ⟨w.heap.size+1+1+1,1,none⟩=some (ι y)/\E.cell? ⟨w.heap.size+1+1+1,2,none⟩=some (ι z)) (first|go_keep|(go_simp;done)) (first|(go_at_call 219;refine(ag.out _).mono ?_;rintro r w2 ⟨rfl,c⟩;have l:μ wr w2:=(zQ (by go_grown) c (zg _));have A:=n.below l;obtain⟨U,ac,V⟩:=A.boxed;have u:=m.below l;obtain⟨X,ad,aa⟩:=u.boxed;have ay:=zl l C N;have av:=zl l C M;have aj:=(zl l C I)))
      cases ab with
      |true=>
       have P:Hid (∀i,i<3->xw ⟨B,ts⟩ [f,j,r2] [x,y,z] i=true):=fun i hi=>by
        by_cases e:i=2
        ·subst e;exact L.out
        ·exact HA.out i (by omega)
       go_wp2;go_roundw
       case rel=>exact⟨3,by omega,rfl,A,s.below l,q.below l,u,P,QB b l⟩
       case measure=>simp[intOf]
      |false=>
       have S:Hid (x9 ⟨B,ts⟩ [f,j,r2]=none):=by rw[Hid,HM.out,L.out];simp
       have ah:=q.below l;obtain⟨ae,ap,an⟩:=ah.boxed;go_wp2;exact zK (v:=.tuple #[.agg #[ι 0,ι 0,ι 0],.bool false]) (by simp[results,results213,go_sem,ae]) rfl ⟨⟨0,0,0,by rw[S.out];rfl,by rw[S.out];rfl⟩,(((QB b l).setCell (p:=⟨w.heap.size+2,0,none⟩) (by simp) _).setCell (p:=⟨w.heap.size+2,1,none⟩) (by simp) _).setCell (p:=⟨w.heap.size+2,2,none⟩) (by simp) _⟩
     ·have L:Hid (xw ⟨B,ts⟩ [f,j,r2] [x,y,z] 2=true):=by unfold xw;rw[Hid,decide_eq_true (show ts.length<=2 by omega)];rfl
      have P:Hid (∀i,i<3->xw ⟨B,ts⟩ [f,j,r2] [x,y,z] i=true):=fun i hi=>by
       by_cases e:i=2
       ·subst e;exact L.out
       ·exact HA.out i (by omega)
      have al:decide ((2:Int)<(ts.length:Int))=false:=decide_eq_false (by omega);go_wp2;go_quiet (fail)
      go_wp2;go_roundw
      case rel=>exact⟨3,by omega,rfl,n.below (zJ (zo _ _) _),s.below (zJ (zo _ _) _),q.below (zJ (zo _ _) _),m.below (zJ (zo _ _) _),P,zJ b _⟩
      case measure=>simp[intOf]
    |3,_=>
     have S:Hid (x9 ⟨B,ts⟩ [f,j,r2]=some [x,y,z]):=by rw[Hid,HM.out,HA.out 0 (by omega),HA.out 1 (by omega),HA.out 2 (by omega)];rfl
     go_wp2;exact zK (v:=.tuple #[.agg #[ι x,ι y,ι z],.bool true]) (by simp[results,results213,go_sem,a6]) rfl ⟨⟨x,y,z,by rw[S.out];rfl,by rw[S.out];rfl⟩,((b.setCell (p:=⟨w.heap.size+2,0,none⟩) (by simp) _).setCell (p:=⟨w.heap.size+2,1,none⟩) (by simp) _).setCell (p:=⟨w.heap.size+2,2,none⟩) (by simp) _⟩
def dF(ps:List (Nat×Value)):List Value:=ps.flatMap fun x=>[ι (x.1:Nat),x.2]
theorem Cf:∀(ps:List (Nat×Value)) (k:Nat) (a:k<ps.length),(dF ps)[k*2]?=some (ι (ps[k].1:Nat))/\(dF ps)[k*2+1]?=some ps[k].2
 |[],k,a=>by simp at a
 |p::r,0,_=>by simp[dF]
 |p::r,k+1,a=>by
  have:=Cf r k (by simpa using a);simp only[dF,us] at this ⊢;rw[show(k+1)*2=k*2+1+1 from by omega,show k*2+1+1+1=k*2+1+1+1 from rfl];simpa using this
def xX(lo:Nat)(w:World)(v:Value)(a:List zu):Prop:=∃b:List (Nat×Value),w.ownsRow lo 204 2 v a.length (dF b)/\b.length=a.length/\a.length<=1000/\∀k (c:k<a.length) (d:k<b.length),b[k].1=a[k].pred/\yh lo w b[k].2 a[k].qg/\a[k].pred<=1000000
theorem xX.below{w w':World}{v:Value}{d:List zu}(h:xX lo w v d)(e:μ w w'):xX lo w' v d:=by
 obtain⟨f,j,g,i,c⟩:=h;exact⟨f,zB j e,g,i,fun k a b=>⟨(c k a b).1,(c k a b).2.1.below e,(c k a b).2.2⟩⟩
theorem xX.qx{w:World}{v:Value}{b:List zu}(h:xX lo w v b):∃d a,v=.slice d b.length a:=by obtain⟨e,c,_⟩:=h;exact zp c
theorem xX.len{w:World}{v:Value}{a:List zu}(h:xX lo w v a):a.length<=1000:=by obtain⟨c,_,_,b,_⟩:=h;exact b
theorem xX.cell{w:World}{j:Option Addr}{n cap:Nat}{c:List zu}(h:xX lo w (.slice j n cap) c)(k:Nat)(s:k<c.length):∃g b a,j=some ⟨g,0,none⟩/\g<w.heap.size/\w.cell? ⟨g,k*2,none⟩=some (ι (c[k].pred:Nat))/\w.cell? ⟨g,k*2+1,none⟩=some (.slice b c[k].qg.length a)/\yh lo w (.slice b c[k].qg.length a) c[k].qg:=by
 obtain⟨u,p,y,z,x⟩:=h;obtain⟨g,f,i,_,v,l⟩:=yx p (by omega);simp only[Value.slice.injEq] at i;obtain⟨rfl,_,_⟩:=i;obtain⟨q,o⟩:=Cf u k (by omega);obtain⟨t,d,_⟩:=x k s (by omega);obtain⟨b,a,r⟩:=d.qx;have m:=l _ _ q;have e:=l _ _ o;rw[t] at m;rw[r] at e d;exact⟨g,b,a,rfl,v,m,e,d⟩
structure vy (lo:Nat) (w:World) (tv pv nv:Value) (r:zr):Prop where
 head:yh lo w tv r.head.qg
 qc:xX lo w pv r.qc
 qp:xX lo w nv r.qp
 small:r.qh<=1000000/\r.vars<=1000000/\r.head.pred<=1000000
theorem vy.below{w w':World}{tv c b:Value}{r:zr}(h:vy lo w tv c b r)(a:μ w w'):vy lo w' tv c b r:=⟨h.head.below a,h.qc.below a,h.qp.below a,h.small⟩
def kT(r:zr)(tv b a:Value):Value:=.agg #[ι r.qh,ι r.vars,ι r.head.pred,tv,b,a]
theorem Kj(w:World)(tv pv nv:Value)(r:zr)(a:Int)(h:vy lo w tv pv nv r):
  Calls prog 220 #[kT r tv pv nv,ι a] w fun e z=>e=ε (ι (xu r a))/\μ w z:=by
 obtain⟨I,t,rfl⟩:=h.head.qx;obtain⟨ak,H,rfl⟩:=h.qc.qx;obtain⟨aa,P,rfl⟩:=h.qp.qx;have an:=h.qc.len;have ao:=h.qp.len;have ab:Hid (∀W,μ w W->Calls prog 225 #[.agg #[ι r.head.pred,.slice I r.head.qg.length t],ι a] W fun e z=>e=ε (ι (jL r.head a))/\μ W z):=fun W J=>CF W _ r.head.pred a r.head.qg (h.head.below J);have hP:=h.qc;have hN:=h.qp;have HE:Hid (xu r a=r.qp.foldl (vO a) (r.qc.foldl (vO a) (jL r.head a))):=rfl;unfold kT;clear h;have M:=Q8.new w #[ι r.qh,ι r.vars,ι r.head.pred,.slice I r.head.qg.length t,.slice ak r.qc.length H,.slice aa r.qp.length P] 207;generalize jL r.head a=R at *;generalize r.qc=b at *;generalize r.qp=c at *;go_enter func220,ntmps220;go_wp2_with (go_at_call 225;refine(ab.out _ (by exact(by go_grown))).mono ?_;rintro e w1 ⟨rfl,B⟩;have ac:μ w w1:=zQ (by go_grown) B (zg _);have u:=M.below B;obtain⟨ae,U,ad⟩:=u.boxed)
 clear ae U ad M B;go_loopw [5,19] (fun V af wr=>∃k:Nat,k<=b.length/\af=ι k/\V=ι ((b.take k).foldl (vO a) R)/\μ w1 wr) (fun _ i _=>b.length-(intOf i).toNat)
 case atStart=>exact⟨0,zv _,rfl,rfl,zo _ _⟩
 case round=>
  obtain⟨k,hk,rfl,rfl,o⟩:=hrel;have p:=QB ac o;have am:=p.size;by_cases N:k<b.length
  ·obtain⟨g,D,j,C,K,F,Q,L⟩:=hP.cell k N;subst C;have al:=zl p K F;have ag:=zl p K Q;have T:g<wr.heap.size:=by omega
   have O:=Q7 (rS b (vO a) R k N);have m:Hid (∀W,μ w W->Calls prog 226 #[.agg #[ι (b[k].pred:Nat),.slice D b[k].qg.length j],ι a] W fun e z=>e=ε (ι (qD b[k] a))/\μ W z):=fun W J=>DY W _ b[k].pred a b[k].qg (L.below J);clear F Q L;generalize b[k]=l at *;generalize (b.take k).foldl (vO a) R=q at *;have f:Hid (vO a q l=if qD l a>q then qD l a else q):=rfl;generalize qD l a=ti at *;by_cases n:ti>q
   ·rw[zc n] at f;go_wp2_with (go_at_call 226;refine(m.out _ (by exact(by go_grown))).mono ?_;rintro e E ⟨rfl,v⟩;have y:μ wr E:=(zQ (by go_grown) v (zg _)))
    go_roundw
    ·exact⟨k+1,by omega,by go_num,by rw[O.out,f.out],QB o y⟩
    ·simp[intOf];omega
   ·rw[za n] at f;go_wp2_with (go_at_call 226;refine(m.out _ (by exact(by go_grown))).mono ?_;rintro e E ⟨rfl,v⟩;have y:μ wr E:=(zQ (by go_grown) v (zg _)))
    go_roundw
    ·exact⟨k+1,by omega,by go_num,by rw[O.out,f.out],QB o y⟩
    ·simp[intOf];omega
  ·obtain rfl:k=b.length:=by omega
   rw[vr];generalize b.foldl (vO a) R=pb at *;have G:=u.below o;obtain⟨ah,Z,S⟩:=G.boxed;go_wp2;clear ah Z S;obtain⟨E,aj⟩:∃E,E=wr:=⟨wr,rfl⟩;subst aj;go_loopw [5,34] (fun V Y wr=>∃k:Nat,k<=c.length/\Y=ι k/\V=ι ((c.take k).foldl (vO a) pb)/\μ w wr) (fun _ i _=>c.length-(intOf i).toNat)
   case atStart=>exact⟨0,zv _,rfl,rfl,p⟩
   case round=>
    obtain⟨k,hk,rfl,rfl,d⟩:=hrel;have ai:=d.size;by_cases s:k<c.length
    ·obtain⟨g,D,j,C,K,F,Q,L⟩:=hN.cell k s;subst C;have al:=zl d K F;have ag:=zl d K Q;have T:g<wr.heap.size:=by omega
     have O:=Q7 (rS c (vO a) pb k s);have m:Hid (∀W,μ w W->Calls prog 226 #[.agg #[ι (c[k].pred:Nat),.slice D c[k].qg.length j],ι a] W fun e z=>e=ε (ι (qD c[k] a))/\μ W z):=fun W J=>DY W _ c[k].pred a c[k].qg (L.below J);clear F Q L;generalize c[k]=l at *;generalize (c.take k).foldl (vO a) pb=q at *;have f:Hid (vO a q l=if qD l a>q then qD l a else q):=rfl;generalize qD l a=ti at *;by_cases n:ti>q
     ·rw[zc n] at f;go_wp2_with (go_at_call 226;refine(m.out _ (by exact(by go_grown))).mono ?_;rintro e X ⟨rfl,A⟩;have x:μ wr X:=(zQ (by go_grown) A (zg _)))
      go_roundw
      ·exact⟨k+1,by omega,by go_num,by rw[O.out,f.out],QB d x⟩
      ·simp[intOf];omega
     ·rw[za n] at f;go_wp2_with (go_at_call 226;refine(m.out _ (by exact(by go_grown))).mono ?_;rintro e X ⟨rfl,A⟩;have x:μ wr X:=(zQ (by go_grown) A (zg _)))
      go_roundw
      ·exact⟨k+1,by omega,by go_num,by rw[O.out,f.out],QB d x⟩
      ·simp[intOf];omega
    ·obtain rfl:k=c.length:=by omega
     rw[vr];go_wp2;go_ret;exact⟨by rw[HE.out];rfl,d⟩
end
end Go.Proofs.YteampbddflhngaaGreat
