import Derived.Test.YteampbddflhngaaGreatX09
namespace Go.Proofs.YteampbddflhngaaGreat
set_option linter.all false
set_option maxRecDepth 100000
set_option maxHeartbeats 8000000
open Go.Proofs.Tryz Go.RowKit
section
variable {lo:Nat}
theorem Pq:(prog.info? 165).map (fun i=>(i.zero,i.size,i.bytes))=some (some (.agg #[.int .i64 0,.int .i64 0,.int .i64 0]),3,24):=by kernel_rfl
def jq(rs:List zk):List Value:=rs.flatMap (·.map Qb)
def PF(lo:Nat)(w:World)(v:Value)(rs:List zk):Prop:=w.ownsRow lo 165 3 v rs.length (jq rs)/\∀r∈rs,r.length=3
def uN(B:Nat)(w:World)(c tb:Nat)(row:zk)(a:List zk):Prop:=∃(x y z:Nat) (b:Value),row=[x,y,z]/\B<=c/\Py w c #[.pointer (some ⟨tb,0,none⟩),.int .i64 x,.int .i64 y,.int .i64 z,b] 223/\PF B w b a
theorem sm{T:zi}{a f v:Nat}(h:yz T a f=some v):v<T.qf:=by
 unfold yz at h;split at h
 ·simp only at h;split at h
  ·cases h
  ·simp only[zr] at h;omega
 ·cases h
theorem ld(T:zi):∀(n a level f:Nat) (row:zk) (b:List zk) (c:zk×List zk),x9 T n a level f row b=some c->b.length<=c.2.length
 |0,_,_,_,_,_,_,h=>by simp[x9] at h
 |n+1,a,level,f,row,b,c,h=>by
  unfold x9 at h;split at h
  ·simp at h;subst h;simp
  ·rename_i v k;simp only at h;split at h
   ·have:=ld T n _ _ _ _ _ _ h;simp at this;omega
   ·split at h
    ·exact ld T n _ _ _ _ _ _ h
    ·split at h
     ·cases h
     ·rename_i e d g;have i:=ld T n _ _ _ _ _ _ g;have j:=ld T n _ _ _ _ _ _ h;simp at i;omega
theorem GC(c:World)(tb:Nat)(T:zi)(fp:List Nat)(ht:zY lo c tb T fp)(d n:Nat)(ih:(∀m,m<n->∀(w:World) (a level:Nat) (row:zk) (i:List zk) (g:zk×List zk),x9 T m a level 0 row i=some g->level<3->g.2.length<=1048576->Below c.heap.size c w->uN c.heap.size w d tb row i->Calls prog 127 #[.pointer (some ⟨d,0,none⟩),.int .i64 a,.int .i64 level] w fun e j=>e=.returned (.tuple #[])/\uN c.heap.size j d tb g.1 g.2/\Below c.heap.size c j))(w:World)(a:Nat)(row:zk)(i:List zk)(g:zk×List zk)(R:x9 T n a 0 0 row i=some g)(a4:g.2.length<=1048576)(X:Below c.heap.size c w)(G:uN c.heap.size w d tb row i):
  Calls prog 127 #[.pointer (some ⟨d,0,none⟩),.int .i64 a,.int .i64 0] w fun e j=>e=.returned (.tuple #[])/\uN c.heap.size j d tb g.1 g.2/\Below c.heap.size c j:=by
 have HI:=Px ih;clear ih;have HL:Hid (∀W f,Below c.heap.size c W->Calls prog 167 #[.pointer (some ⟨tb,0,none⟩),.int .i64 a,.int .i64 ((f:Nat):Int)] W fun e j=>e=.returned (.tuple #[.int .i64 (((yz T a f).getD 0:Nat):Int),.bool (yz T a f).isSome])/\j=W):=fun W f hW=>ro W tb T fp a f (ht.below hW);have HD:Hid (∀W v,Below c.heap.size c W->Calls prog 130 #[.pointer (some ⟨tb,0,none⟩),.int .i64 a,.int .i64 ((v:Nat):Int)] W fun e j=>e=.returned (.tuple #[.int .i64 (((zG T a v).getD 0:Nat):Int),.bool (zG T a v).isSome])/\j=W):=fun W v hW=>mG W tb T fp a v (ht.below hW);have aA:T.ql<=3:=by obtain⟨nv,ns,h1,_⟩:=ht;exact h1.deep
 have aF:T.qf<=1000:=by obtain⟨nv,ns,h1,_⟩:=ht;exact h1.wide
 have A:∃nv,Py c tb #[.int .i64 T.qf,.int .i64 T.ql,nv,.int .i64 T.count] 229:=by obtain⟨nv,ns,h1,_⟩:=ht;exact⟨nv,h1.box⟩
 obtain⟨nv,A⟩:=A;clear ht;have ah:=Px G;have O:=Px R;obtain⟨x,y,z,rv,aq,t,o,ax,am⟩:=G;clear aq ax am R;obtain⟨L,M,Z⟩:=o.boxed;go_enter func127,ntmps127;go_wp2_with (first|(go_at_call 167;refine(HL.out w 0 X).mono ?_;rintro e j ⟨rfl,s⟩;obtain rfl:=s.symm;clear s))
 clear L M Z o;go_loopg [6,7] n (fun k v6 v7 wr=>∃(f:Nat) (I:zk) (b:List zk),v6=.int .i64 (((yz T a f).getD 0:Nat):Int)/\v7=.bool (yz T a f).isSome/\Hid (uN c.heap.size wr d tb I b)/\Hid (x9 T k a 0 f I b=some g)/\k<=n/\Below c.heap.size c wr)
 case atStart=>exact⟨0,row,i,rfl,rfl,ah,O,zf _,X⟩
 case round=>
  clear ah O X t;obtain⟨f,I,b,rfl,rfl,V,HQ,a8,K⟩:=hrel;have ay:=V.out;obtain⟨x,y,z,rv,U,t,o,B,ad⟩:=ay;subst U;obtain⟨L,M,Z⟩:=o.boxed;cases gk with
  |zero=>have:=HQ.out;simp[x9] at this
  |succ m=>
   have D:=HQ.out;unfold x9 at D;cases hl:yz T a f with
   |none=>
    rw[hl] at D;simp only[zr] at D;have HE:Hid (g=([x,y,z],b)):=D.symm;clear D hl HQ;simp only[kZ,gd];go_wp2;go_end0
    exact⟨rfl,by rw[HE.out];exact V.out,K⟩
   |some v=>
    rw[hl] at D;simp only at D;have aC:v<=1000:=by have:=sm hl;omega
    clear hl HQ;simp only[ux,jG];have af:Hid (∀W,Below c.heap.size c W->Calls prog 167 #[.pointer (some ⟨tb,0,none⟩),.int .i64 a,.int .i64 ((v:Int)+1)] W fun e j=>e=.returned (.tuple #[.int .i64 (((yz T a (v+1)).getD 0:Nat):Int),.bool (yz T a (v+1)).isSome])/\j=W):=fun W hW=>by
     have q:=HL.out W (v+1) hW;rw[show((v+1:Nat):Int)=(v:Int)+1 from by omega] at q;exact q
    have l:=o.set 1 (.int .i64 v);simp at l;have ai:=A.below K;obtain⟨az,av,ap⟩:=ai.boxed;have aD:d≠tb:=(fun e=>by have:=A.lt;omega);by_cases hd:T.ql<=1
    ·rw[zb (by omega)] at D;have J:Hid (x9 T m a 0 (v+1) [v,y,z] (b++[[v,y,z]])=some g):=D;have Y:=ld T m _ _ _ _ _ _ D;simp at Y;clear D HI HD HL;obtain⟨i0,hi,aw,ar,an⟩:=info_parts Pq;obtain⟨ao,ac,rfl⟩:=zs B;have u:(wr.setCell ⟨d,1,none⟩ (.int .i64 v)).ownsRow c.heap.size 165 3 (.slice ao b.length ac) b.length (jq b):=xK B ((PB.refl d wr).setCell 1 _) o (by decide);have F:Below c.heap.size c (wr.setCell ⟨d,1,none⟩ (.int .i64 v)):=K.setCell (p:=⟨d,1,none⟩) t _;have au:=F.size;go_wp2;clear L M o B az av ap ai V Z;generalize wr.setCell ⟨d,1,none⟩ (.int .i64 v)=wS at *;obtain⟨L,M,a1⟩:=l.boxed;go_region_law (first|(refine dU wS _ [.int .i64 v,.int .i64 y,.int .i64 z] 165 rfl (.tmp 42) (.tmp 47) 161 rfl c.heap.size 165 i0 _ 3 24 underlying161 hi aw ar an rfl (by decide) (.slice ao b.length ac) b.length (jq b) (by simp[Act.eval]) u (by exact(by go_grown)) wS.heap.size 1 (by simp[Act.eval]) (by exact Py.drew (Py.new _ _ _)) rfl (by simp[Value.oneCell']) (by omega) (by omega) (by omega) ?_;intro v' w2 aa ag a0 aE a3;obtain⟨C,h,rfl⟩:=zs aa;have H:=l.save ag (qH u l (by decide));obtain⟨aG,aB,a7⟩:=H.boxed))
     all_goals
      have S:PF c.heap.size (w2.setCell ⟨d,4,none⟩ (.slice C (b.length+1) h)) (.slice C (b.length+1) h) (b++[[v,y,z]]):=by
       refine⟨?_,fun r hr=>?_⟩
       ·have:=xK aa ((PB.refl d w2).setCell 4 (.slice C (b.length+1) h)) H (by decide);simpa [jq,Qb] using this
       ·rcases zX.1 hr with q|q
        ·exact ad r q
        ·simp at q;rw[q];rfl
      have P:=H.set 4 (.slice C (b.length+1) h);simp at P;have aj:Below c.heap.size c (w2.setCell ⟨d,4,none⟩ (.slice C (b.length+1) h)):=(F.trans (ag.below (fun x hx=>xb u (yw hx)) au)).setCell (p:=⟨d,4,none⟩) t _;have E:Hid (uN c.heap.size (w2.setCell ⟨d,4,none⟩ (.slice C (b.length+1) h)) d tb [v,y,z] (b++[[v,y,z]])):=⟨_,_,_,_,rfl,t,P,S⟩;go_wp2_with (first|(go_at_call 167;refine(af.out _ (by exact aj)).mono ?_;rintro e j ⟨rfl,s⟩;obtain rfl:=s.symm))
      go_roundg m
      case measure=>omega
      case rel=>exact⟨v+1,_,_,rfl,rfl,E,J,by omega,aj⟩
    ·have J:=D;rw[za (by omega),za (by omega)] at J;have F:Below c.heap.size c (wr.setCell ⟨d,1,none⟩ (.int .i64 v)):=K.setCell (p:=⟨d,1,none⟩) t _;have ae:uN c.heap.size (wr.setCell ⟨d,1,none⟩ (.int .i64 v)) d tb [v,y,z] b:=⟨_,_,_,rv,rfl,t,l,xK B ((PB.refl d wr).setCell 1 _) o (by decide),ad⟩;cases N:x9 T m ((zG T a v).getD 0) 1 0 [v,y,z] b with
     |none=>rw[show [x,y,z].set 0 v=[v,y,z] from rfl] at J;rw[N] at J;cases J
     |some rr=>
      rw[show [x,y,z].set 0 v=[v,y,z] from rfl] at J;rw[N] at J;have H3:x9 T m a 0 (v+1) rr.1 rr.2=some g:=J;have HW:Hid (Calls prog 127 #[.pointer (some ⟨d,0,none⟩),.int .i64 (((zG T a v).getD 0:Nat):Int),.int .i64 1] (wr.setCell ⟨d,1,none⟩ (.int .i64 v)) fun e j=>e=.returned (.tuple #[])/\uN c.heap.size j d tb rr.1 rr.2/\Below c.heap.size c j):=by
       have q:=HI.out m (by omega) _ _ _ _ _ rr N (by omega) (by have:=ld T m _ _ _ _ _ _ H3;omega) F ae;rw[show((1:Nat):Int)=1 from rfl] at q;exact q
      have H4:=Px H3;clear D J H3 N;have al:=Px (HD.out _ v F);generalize (zG T a v).getD 0=dn at *;generalize (zG T a v).isSome=ds at *;clear HD HI HL;go_wp2_with (first|(go_at_call 130;refine al.out.mono ?_;rintro e j ⟨rfl,s⟩;obtain rfl:=s.symm)|(go_at_call 127;refine HW.out.mono ?_;rintro e w3 ⟨rfl,Q,ak⟩;have E:=Px Q;obtain⟨x3,y3,z3,a9,_,_,ab,_,_⟩:=Q;obtain⟨a2,a6,a5⟩:=ab.boxed)|(go_at_call 167;refine(af.out _ ak).mono ?_;rintro e j ⟨rfl,s⟩;obtain rfl:=s.symm))
      go_roundg m
      case measure=>omega
      case rel=>exact⟨v+1,rr.1,rr.2,rfl,rfl,E,H4,by omega,ak⟩
theorem Hc(c:World)(tb:Nat)(T:zi)(fp:List Nat)(ht:zY lo c tb T fp)(d n:Nat)(ih:(∀m,m<n->∀(w:World) (a level:Nat) (row:zk) (i:List zk) (g:zk×List zk),x9 T m a level 0 row i=some g->level<3->g.2.length<=1048576->Below c.heap.size c w->uN c.heap.size w d tb row i->Calls prog 127 #[.pointer (some ⟨d,0,none⟩),.int .i64 a,.int .i64 level] w fun e j=>e=.returned (.tuple #[])/\uN c.heap.size j d tb g.1 g.2/\Below c.heap.size c j))(w:World)(a:Nat)(row:zk)(i:List zk)(g:zk×List zk)(R:x9 T n a 1 0 row i=some g)(a4:g.2.length<=1048576)(X:Below c.heap.size c w)(G:uN c.heap.size w d tb row i):
  Calls prog 127 #[.pointer (some ⟨d,0,none⟩),.int .i64 a,.int .i64 1] w fun e j=>e=.returned (.tuple #[])/\uN c.heap.size j d tb g.1 g.2/\Below c.heap.size c j:=by
 have HI:=Px ih;clear ih;have HL:Hid (∀W f,Below c.heap.size c W->Calls prog 167 #[.pointer (some ⟨tb,0,none⟩),.int .i64 a,.int .i64 ((f:Nat):Int)] W fun e j=>e=.returned (.tuple #[.int .i64 (((yz T a f).getD 0:Nat):Int),.bool (yz T a f).isSome])/\j=W):=fun W f hW=>ro W tb T fp a f (ht.below hW);have HD:Hid (∀W v,Below c.heap.size c W->Calls prog 130 #[.pointer (some ⟨tb,0,none⟩),.int .i64 a,.int .i64 ((v:Nat):Int)] W fun e j=>e=.returned (.tuple #[.int .i64 (((zG T a v).getD 0:Nat):Int),.bool (zG T a v).isSome])/\j=W):=fun W v hW=>mG W tb T fp a v (ht.below hW);have aA:T.ql<=3:=by obtain⟨nv,ns,h1,_⟩:=ht;exact h1.deep
 have aF:T.qf<=1000:=by obtain⟨nv,ns,h1,_⟩:=ht;exact h1.wide
 have A:∃nv,Py c tb #[.int .i64 T.qf,.int .i64 T.ql,nv,.int .i64 T.count] 229:=by obtain⟨nv,ns,h1,_⟩:=ht;exact⟨nv,h1.box⟩
 obtain⟨nv,A⟩:=A;clear ht;have ah:=Px G;have O:=Px R;obtain⟨x,y,z,rv,aq,t,o,ax,am⟩:=G;clear aq ax am R;obtain⟨L,M,Z⟩:=o.boxed;go_enter func127,ntmps127;go_wp2_with (first|(go_at_call 167;refine(HL.out w 0 X).mono ?_;rintro e j ⟨rfl,s⟩;obtain rfl:=s.symm;clear s))
 clear L M Z o;go_loopg [6,7] n (fun k v6 v7 wr=>∃(f:Nat) (I:zk) (b:List zk),v6=.int .i64 (((yz T a f).getD 0:Nat):Int)/\v7=.bool (yz T a f).isSome/\Hid (uN c.heap.size wr d tb I b)/\Hid (x9 T k a 1 f I b=some g)/\k<=n/\Below c.heap.size c wr)
 case atStart=>exact⟨0,row,i,rfl,rfl,ah,O,zf _,X⟩
 case round=>
  clear ah O X t;obtain⟨f,I,b,rfl,rfl,V,HQ,a8,K⟩:=hrel;have ay:=V.out;obtain⟨x,y,z,rv,U,t,o,B,ad⟩:=ay;subst U;obtain⟨L,M,Z⟩:=o.boxed;cases gk with
  |zero=>have:=HQ.out;simp[x9] at this
  |succ m=>
   have D:=HQ.out;unfold x9 at D;cases hl:yz T a f with
   |none=>
    rw[hl] at D;simp only[zr] at D;have HE:Hid (g=([x,y,z],b)):=D.symm;clear D hl HQ;simp only[kZ,gd];go_wp2;go_end0
    exact⟨rfl,by rw[HE.out];exact V.out,K⟩
   |some v=>
    rw[hl] at D;simp only at D;have aC:v<=1000:=by have:=sm hl;omega
    clear hl HQ;simp only[ux,jG];have af:Hid (∀W,Below c.heap.size c W->Calls prog 167 #[.pointer (some ⟨tb,0,none⟩),.int .i64 a,.int .i64 ((v:Int)+1)] W fun e j=>e=.returned (.tuple #[.int .i64 (((yz T a (v+1)).getD 0:Nat):Int),.bool (yz T a (v+1)).isSome])/\j=W):=fun W hW=>by
     have q:=HL.out W (v+1) hW;rw[show((v+1:Nat):Int)=(v:Int)+1 from by omega] at q;exact q
    have l:=o.set 2 (.int .i64 v);simp at l;have ai:=A.below K;obtain⟨az,av,ap⟩:=ai.boxed;have aD:d≠tb:=(fun e=>by have:=A.lt;omega);by_cases hd:T.ql<=2
    ·rw[zb (by omega)] at D;have J:Hid (x9 T m a 1 (v+1) [x,v,z] (b++[[x,v,z]])=some g):=D;have Y:=ld T m _ _ _ _ _ _ D;simp at Y;clear D HI HD HL;obtain⟨i0,hi,aw,ar,an⟩:=info_parts Pq;obtain⟨ao,ac,rfl⟩:=zs B;have u:(wr.setCell ⟨d,2,none⟩ (.int .i64 v)).ownsRow c.heap.size 165 3 (.slice ao b.length ac) b.length (jq b):=xK B ((PB.refl d wr).setCell 2 _) o (by decide);have F:Below c.heap.size c (wr.setCell ⟨d,2,none⟩ (.int .i64 v)):=K.setCell (p:=⟨d,2,none⟩) t _;have au:=F.size;go_wp2;clear L M o B az av ap ai V Z;generalize wr.setCell ⟨d,2,none⟩ (.int .i64 v)=wS at *;obtain⟨L,M,a1⟩:=l.boxed;go_region_law (first|(refine dU wS _ [.int .i64 x,.int .i64 v,.int .i64 z] 165 rfl (.tmp 42) (.tmp 47) 161 rfl c.heap.size 165 i0 _ 3 24 underlying161 hi aw ar an rfl (by decide) (.slice ao b.length ac) b.length (jq b) (by simp[Act.eval]) u (by exact(by go_grown)) wS.heap.size 1 (by simp[Act.eval]) (by exact Py.drew (Py.new _ _ _)) rfl (by simp[Value.oneCell']) (by omega) (by omega) (by omega) ?_;intro v' w2 aa ag a0 aE a3;obtain⟨C,h,rfl⟩:=zs aa;have H:=l.save ag (qH u l (by decide));obtain⟨aG,aB,a7⟩:=H.boxed))
     all_goals
      have S:PF c.heap.size (w2.setCell ⟨d,4,none⟩ (.slice C (b.length+1) h)) (.slice C (b.length+1) h) (b++[[x,v,z]]):=by
       refine⟨?_,fun r hr=>?_⟩
       ·have:=xK aa ((PB.refl d w2).setCell 4 (.slice C (b.length+1) h)) H (by decide);simpa [jq,Qb] using this
       ·rcases zX.1 hr with q|q
        ·exact ad r q
        ·simp at q;rw[q];rfl
      have P:=H.set 4 (.slice C (b.length+1) h);simp at P;have aj:Below c.heap.size c (w2.setCell ⟨d,4,none⟩ (.slice C (b.length+1) h)):=(F.trans (ag.below (fun x hx=>xb u (yw hx)) au)).setCell (p:=⟨d,4,none⟩) t _;have E:Hid (uN c.heap.size (w2.setCell ⟨d,4,none⟩ (.slice C (b.length+1) h)) d tb [x,v,z] (b++[[x,v,z]])):=⟨_,_,_,_,rfl,t,P,S⟩;go_wp2_with (first|(go_at_call 167;refine(af.out _ (by exact aj)).mono ?_;rintro e j ⟨rfl,s⟩;obtain rfl:=s.symm))
      go_roundg m
      case measure=>omega
      case rel=>exact⟨v+1,_,_,rfl,rfl,E,J,by omega,aj⟩
    ·have J:=D;rw[za (by omega),za (by omega)] at J;have F:Below c.heap.size c (wr.setCell ⟨d,2,none⟩ (.int .i64 v)):=K.setCell (p:=⟨d,2,none⟩) t _;have ae:uN c.heap.size (wr.setCell ⟨d,2,none⟩ (.int .i64 v)) d tb [x,v,z] b:=⟨_,_,_,rv,rfl,t,l,xK B ((PB.refl d wr).setCell 2 _) o (by decide),ad⟩;cases N:x9 T m ((zG T a v).getD 0) 2 0 [x,v,z] b with
     |none=>rw[show [x,y,z].set 1 v=[x,v,z] from rfl] at J;rw[N] at J;cases J
     |some rr=>
      rw[show [x,y,z].set 1 v=[x,v,z] from rfl] at J;rw[N] at J;have H3:x9 T m a 1 (v+1) rr.1 rr.2=some g:=J;have HW:Hid (Calls prog 127 #[.pointer (some ⟨d,0,none⟩),.int .i64 (((zG T a v).getD 0:Nat):Int),.int .i64 2] (wr.setCell ⟨d,2,none⟩ (.int .i64 v)) fun e j=>e=.returned (.tuple #[])/\uN c.heap.size j d tb rr.1 rr.2/\Below c.heap.size c j):=by
       have q:=HI.out m (by omega) _ _ _ _ _ rr N (by omega) (by have:=ld T m _ _ _ _ _ _ H3;omega) F ae;rw[show((2:Nat):Int)=2 from rfl] at q;exact q
      have H4:=Px H3;clear D J H3 N;have al:=Px (HD.out _ v F);generalize (zG T a v).getD 0=dn at *;generalize (zG T a v).isSome=ds at *;clear HD HI HL;go_wp2_with (first|(go_at_call 130;refine al.out.mono ?_;rintro e j ⟨rfl,s⟩;obtain rfl:=s.symm)|(go_at_call 127;refine HW.out.mono ?_;rintro e w3 ⟨rfl,Q,ak⟩;have E:=Px Q;obtain⟨x3,y3,z3,a9,_,_,ab,_,_⟩:=Q;obtain⟨a2,a6,a5⟩:=ab.boxed)|(go_at_call 167;refine(af.out _ ak).mono ?_;rintro e j ⟨rfl,s⟩;obtain rfl:=s.symm))
      go_roundg m
      case measure=>omega
      case rel=>exact⟨v+1,rr.1,rr.2,rfl,rfl,E,H4,by omega,ak⟩
theorem NZ(c:World)(tb:Nat)(T:zi)(fp:List Nat)(U:zY lo c tb T fp)(i n:Nat)(ih:(∀m,m<n->∀(w:World) (a level:Nat) (row:zk) (h:List zk) (d:zk×List zk),x9 T m a level 0 row h=some d->level<3->d.2.length<=1048576->Below c.heap.size c w->uN c.heap.size w i tb row h->Calls prog 127 #[.pointer (some ⟨i,0,none⟩),.int .i64 a,.int .i64 level] w fun e u=>e=.returned (.tuple #[])/\uN c.heap.size u i tb d.1 d.2/\Below c.heap.size c u))(w:World)(a:Nat)(row:zk)(h:List zk)(d:zk×List zk)(L:x9 T n a 2 0 row h=some d)(az:d.2.length<=1048576)(Q:Below c.heap.size c w)(A:uN c.heap.size w i tb row h):
  Calls prog 127 #[.pointer (some ⟨i,0,none⟩),.int .i64 a,.int .i64 2] w fun e u=>e=.returned (.tuple #[])/\uN c.heap.size u i tb d.1 d.2/\Below c.heap.size c u:=by
 have HI:=Px ih;clear ih;have HL:Hid (∀W f,Below c.heap.size c W->Calls prog 167 #[.pointer (some ⟨tb,0,none⟩),.int .i64 a,.int .i64 ((f:Nat):Int)] W fun e u=>e=.returned (.tuple #[.int .i64 (((yz T a f).getD 0:Nat):Int),.bool (yz T a f).isSome])/\u=W):=fun W f hW=>ro W tb T fp a f (U.below hW);have HD:Hid (∀W v,Below c.heap.size c W->Calls prog 130 #[.pointer (some ⟨tb,0,none⟩),.int .i64 a,.int .i64 ((v:Nat):Int)] W fun e u=>e=.returned (.tuple #[.int .i64 (((zG T a v).getD 0:Nat):Int),.bool (zG T a v).isSome])/\u=W):=fun W v hW=>mG W tb T fp a v (U.below hW);have am:T.ql<=3:=by obtain⟨V,ns,h1,_⟩:=U;exact h1.deep
 have a6:T.qf<=1000:=by obtain⟨V,ns,h1,_⟩:=U;exact h1.wide
 have s:∃V,Py c tb #[.int .i64 T.qf,.int .i64 T.ql,V,.int .i64 T.count] 229:=by obtain⟨V,ns,h1,_⟩:=U;exact⟨V,h1.box⟩
 obtain⟨V,s⟩:=s;clear U;have ac:=Px A;have J:=Px L;obtain⟨x,y,z,rv,ai,B,j,ar,af⟩:=A;clear ai ar af L;obtain⟨G,H,S⟩:=j.boxed;go_enter func127,ntmps127;go_wp2_with (first|(go_at_call 167;refine(HL.out w 0 Q).mono ?_;rintro e u ⟨rfl,I⟩;obtain rfl:=I.symm;clear I))
 clear G H S j;go_loopg [6,7] n (fun k v6 v7 wr=>∃(f:Nat) (E:zk) (b:List zk),v6=.int .i64 (((yz T a f).getD 0:Nat):Int)/\v7=.bool (yz T a f).isSome/\Hid (uN c.heap.size wr i tb E b)/\Hid (x9 T k a 2 f E b=some d)/\k<=n/\Below c.heap.size c wr)
 case atStart=>exact⟨0,row,h,rfl,rfl,ac,J,zf _,Q⟩
 case round=>
  clear ac J Q B;obtain⟨f,E,b,rfl,rfl,P,HQ,a1,M⟩:=hrel;have au:=P.out;obtain⟨x,y,z,rv,O,B,j,F,al⟩:=au;subst O;obtain⟨G,H,S⟩:=j.boxed;cases gk with
  |zero=>have:=HQ.out;simp[x9] at this
  |succ m=>
   have D:=HQ.out;unfold x9 at D;cases hl:yz T a f with
   |none=>
    rw[hl] at D;simp only[zr] at D;have HE:Hid (d=([x,y,z],b)):=D.symm;clear D hl HQ;simp only[kZ,gd];go_wp2;go_end0
    exact⟨rfl,by rw[HE.out];exact P.out,M⟩
   |some v=>
    rw[hl] at D;simp only at D;have a3:v<=1000:=by have:=sm hl;omega
    clear hl HQ;simp only[ux,jG];have ap:Hid (∀W,Below c.heap.size c W->Calls prog 167 #[.pointer (some ⟨tb,0,none⟩),.int .i64 a,.int .i64 ((v:Int)+1)] W fun e u=>e=.returned (.tuple #[.int .i64 (((yz T a (v+1)).getD 0:Nat):Int),.bool (yz T a (v+1)).isSome])/\u=W):=fun W hW=>by
     have q:=HL.out W (v+1) hW;rw[show((v+1:Nat):Int)=(v:Int)+1 from by omega] at q;exact q
    have o:=j.set 3 (.int .i64 v);simp at o;have ad:=s.below M;obtain⟨av,an,ah⟩:=ad.boxed;have a4:i≠tb:=(fun e=>by have:=s.lt;omega);by_cases hd:T.ql<=3
    ·rw[zb (by omega)] at D;have H2:Hid (x9 T m a 2 (v+1) [x,y,v] (b++[[x,y,v]])=some d):=D;have R:=ld T m _ _ _ _ _ _ D;simp at R;clear D HI HD HL;obtain⟨i0,hi,aq,aj,ag⟩:=info_parts Pq;obtain⟨ao,Z,rfl⟩:=zs F;have l:(wr.setCell ⟨i,3,none⟩ (.int .i64 v)).ownsRow c.heap.size 165 3 (.slice ao b.length Z) b.length (jq b):=xK F ((PB.refl i wr).setCell 3 _) j (by decide);have aa:Below c.heap.size c (wr.setCell ⟨i,3,none⟩ (.int .i64 v)):=M.setCell (p:=⟨i,3,none⟩) B _;have ak:=aa.size;go_wp2;clear G H j F av an ah ad P S;generalize wr.setCell ⟨i,3,none⟩ (.int .i64 v)=wS at *;obtain⟨G,H,ax⟩:=o.boxed;go_region_law (first|(refine dU wS _ [.int .i64 x,.int .i64 y,.int .i64 v] 165 rfl (.tmp 42) (.tmp 47) 161 rfl c.heap.size 165 i0 _ 3 24 underlying161 hi aq aj ag rfl (by decide) (.slice ao b.length Z) b.length (jq b) (by simp[Act.eval]) l (by exact(by go_grown)) wS.heap.size 1 (by simp[Act.eval]) (by exact Py.drew (Py.new _ _ _)) rfl (by simp[Value.oneCell']) (by omega) (by omega) (by omega) ?_;intro v' w2 X ab aw a5 ay;obtain⟨t,g,rfl⟩:=zs X;have C:=o.save ab (qH l o (by decide));obtain⟨a7,a2,a0⟩:=C.boxed))
     all_goals
      have N:PF c.heap.size (w2.setCell ⟨i,4,none⟩ (.slice t (b.length+1) g)) (.slice t (b.length+1) g) (b++[[x,y,v]]):=by
       refine⟨?_,fun r hr=>?_⟩
       ·have:=xK X ((PB.refl i w2).setCell 4 (.slice t (b.length+1) g)) C (by decide);simpa [jq,Qb] using this
       ·rcases zX.1 hr with q|q
        ·exact al r q
        ·simp at q;rw[q];rfl
      have K:=C.set 4 (.slice t (b.length+1) g);simp at K;have ae:Below c.heap.size c (w2.setCell ⟨i,4,none⟩ (.slice t (b.length+1) g)):=(aa.trans (ab.below (fun x hx=>xb l (yw hx)) ak)).setCell (p:=⟨i,4,none⟩) B _;have Y:Hid (uN c.heap.size (w2.setCell ⟨i,4,none⟩ (.slice t (b.length+1) g)) i tb [x,y,v] (b++[[x,y,v]])):=⟨_,_,_,_,rfl,B,K,N⟩;go_wp2_with (first|(go_at_call 167;refine(ap.out _ (by exact ae)).mono ?_;rintro e u ⟨rfl,I⟩;obtain rfl:=I.symm))
      go_roundg m
      case measure=>omega
      case rel=>exact⟨v+1,_,_,rfl,rfl,Y,H2,by omega,ae⟩
    ·exact zB am (by omega)
theorem Rc(h:World)(tb:Nat)(T:zi)(fp:List Nat)(l:zY lo h tb T fp)(j:Nat):∀(n:Nat) (w:World) (a level:Nat) (row:zk) (b:List zk) (c:zk×List zk),x9 T n a level 0 row b=some c->level<3->c.2.length<=1048576->Below h.heap.size h w->uN h.heap.size w j tb row b →
  Calls prog 127 #[.pointer (some ⟨j,0,none⟩),.int .i64 a,.int .i64 level] w fun e o=>e=.returned (.tuple #[])/\uN h.heap.size o j tb c.1 c.2/\Below h.heap.size h o:=by
 intro n;induction n using Nat.strongRecOn with
 |_ n k=>
  intro w a level row b c g m f i d;obtain rfl|rfl|rfl:level=0∨level=1∨level=2:=by omega
  ·exact GC h tb T fp l j n k w a row b c g f i d
  ·exact Hc h tb T fp l j n k w a row b c g f i d
  ·exact NZ h tb T fp l j n k w a row b c g f i d
theorem MS(w:World)(tb:Nat)(T:zi)(fp:List Nat)(q:zY lo w tb T fp)(n:Nat)(rs:List zk)(a:nf n T=some rs)(b:rs.length<=1048576):
  Calls prog 78 #[.pointer (some ⟨tb,0,none⟩)] w fun e k=>∃v,e=.returned v/\PF w.heap.size k v rs/\Below w.heap.size w k:=by
 unfold nf at a;cases f:x9 T n 0 0 0 [0,0,0] [] with
 |none=>rw[f] at a;cases a
 |some g=>
  rw[f] at a;simp only[jj,zr] at a;subst a;have hrel:uN w.heap.size (w.alloc (.cells #[.pointer (some ⟨tb,0,none⟩),.int .i64 0,.int .i64 0,.int .i64 0,.slice none 0 0] 223)) w.heap.size tb [0,0,0] []:=⟨0,0,0,_,rfl,zf _,Py.new _ _ _,yI _ _ _ _,by simp⟩;have o:=Px (Rc w tb T fp q w.heap.size n _ 0 0 _ _ g f (by omega) b zQ hrel);go_enter func78,ntmps78;go_wp2_with (first|(go_at_call 127;refine o.out.mono ?_;rintro e s ⟨rfl,h,d⟩;obtain⟨x,y,z,r,_,_,j,c⟩:=h;have i:=Px c;clear c;obtain⟨l,p,m⟩:=j.boxed))
  go_ret;exact⟨_,rfl,i.out,d⟩
def j6(t:ya):Value×Value×Value:=(.bool t.var,.int .i64 t.num,.int .i64 t.level)
structure yh (lo:Nat) (w:World) (v:Value) (ts:List ya):Prop where
 own:w.ownsRow lo 284 3 v ts.length (PO (ts.map j6))
 len:ts.length<=1000
 num:∀t∈ts,t.num<=1000000/\t.level<=1000000
theorem yh.below{w a:World}{v:Value}{ts:List ya}(h:yh lo w v ts)(b:Below w.heap.size w a):yh lo a v ts:=⟨zC h.own b,h.len,h.num⟩
theorem yh.qx{w:World}{v:Value}{ts:List ya}(h:yh lo w v ts):∃b a,v=.slice b ts.length a:=zs h.own
theorem yh.cell{w:World}{f:Option Addr}{n cap:Nat}{ts:List ya}(h:yh lo w (.slice f n cap) ts)(k:Nat)(j:k<ts.length):∃g,f=some ⟨g,0,none⟩/\g<w.heap.size/\w.cell? ⟨g,k*3,none⟩=some (.bool ts[k].var)/\w.cell? ⟨g,k*3+1,none⟩=some (.int .i64 (ts[k].num:Nat))/\w.cell? ⟨g,k*3+2,none⟩=some (.int .i64 (ts[k].level:Nat)):=by
 obtain⟨g,e,b,_,i,_⟩:=yC h.own (by omega);simp only[Value.slice.injEq] at b;obtain⟨rfl,_,_⟩:=b;obtain⟨_,c,d,a⟩:=wF h.own k (by simpa using j);simp only[vm,j6] at c d a;exact⟨g,rfl,i,c,d,a⟩
theorem Ql{α:Type}(l:List α)(p:α->Bool)(k:Nat)(a:k<l.length):(l.take (k+1)).any p=((l.take k).any p||p l[k]):=by
 rw[yP a,List.any_append];simp
theorem BU{α:Type}(l:List α)(p:α->Bool)(k:Nat)(a:k<l.length)(h:p l[k]=true):l.any p=true:=kT.2 ⟨_,zv a,h⟩
theorem C4(w:World)(v:Value)(f c:Nat)(ts:List ya)(h:yh lo w v ts):
  Calls prog 202 #[.agg #[.int .i64 f,v],.int .i64 c] w fun e y=>e=.returned (.bool (zH ⟨f,ts⟩ c))/\Below w.heap.size w y:=by
 obtain⟨G,C,rfl⟩:=h.qx;have I:=h.len;go_enter func202,ntmps202;go_wp2;go_loopw [10] (fun l wr=>∃k:Nat,k<=ts.length/\l=.int .i64 k/\Hid ((ts.take k).any (fun t=>t.var&&t.num == c)=false)/\Below w.heap.size w wr) (fun i _=>ts.length-(intOf i).toNat)
 case atStart=>exact⟨0,zx _,rfl,rfl,(by go_grown)⟩
 case round=>
  obtain⟨k,H,rfl,j,a⟩:=hrel;have b:=a.size;by_cases d:k<ts.length
  ·obtain⟨g,rfl,q,B,D,A⟩:=h.cell k d;have m:=zm a q B;have z:=zm a q D;have x:=zm a q A;have s:=Px (Ql ts (fun t=>t.var&&t.num == c) k d);have F:=Px (BU ts (fun t=>t.var&&t.num == c) k d);generalize ts[k]=t at *;cases u:t.var with
   |false=>
    rw[u] at m s;go_wp2;go_roundw
    case rel=>exact⟨k+1,by omega,by go_num,(by rw[s.out,j.out];rfl),a.alloc b _⟩
    case measure=>simp[intOf];omega
   |true=>
    by_cases p:t.num=c
    ·have r:Hid (zH ⟨f,ts⟩ c=true):=F.out (by simp[u,p]);subst p;go_wp2;go_ret;exact⟨by rw[r.out];rfl,a.alloc b _⟩
    ·have n:Hid ((t.var&&t.num == c)=false):=by simp[Hid,p]
     have o:Hid ((ts.take (k+1)).any (fun t=>t.var&&t.num == c)=false):=by rw[Hid,s.out,j.out,n.out];rfl
     go_wp2;go_roundw
     case rel=>exact⟨k+1,by omega,by go_num,o,a.alloc b _⟩
     case measure=>simp[intOf];omega
  ·have E:Hid (zH ⟨f,ts⟩ c=false):=by
    have:=j.out;rw[xi (by omega)] at this;exact this
   go_wp2;go_ret;exact⟨by rw[E.out];rfl,a⟩
theorem C3(p:Nat->Bool)(k:Nat):(List.range (k+1)).countP p=(List.range k).countP p+(if p k then 1 else 0):=by
 rw[List.range_succ,List.countP_append];simp[List.countP_cons]
theorem D8(w:World)(v:Value)(a b:Nat)(ts:List ya)(h:yh lo w v ts)(I:b<=1000000):
  Calls prog 187 #[.agg #[.int .i64 a,v],.int .i64 b] w fun e B=>e=.returned (qW (yN ⟨a,ts⟩ b))/\Below w.heap.size w B:=by
 have x:=Px fun W p m=>C4 W v a p ts (h.below m);cases f:zH ⟨a,ts⟩ b with
 |false=>
  have z:Hid (yN ⟨a,ts⟩ b=none):=by simp[Hid,yN,f]
  have A:=Px fun W m=>by have q:=x.out W b m;rw[f] at q;exact q
  go_enter func187,ntmps187;go_wp2_with (first|(go_at_call 202;refine(A.out _ (by exact(by go_grown))).mono ?_;rintro e r ⟨rfl,c⟩;have j:Below w.heap.size w r:=zP (by go_grown) c (zf _)))
  go_ret2
  exact⟨by rw[z.out];rfl,j⟩
 |true=>
  have z:Hid (yN ⟨a,ts⟩ b=some ((List.range b).countP (zH ⟨a,ts⟩))):=by simp[Hid,yN,f]
  have A:=Px fun W m=>by have q:=x.out W b m;rw[f] at q;exact q
  go_enter func187,ntmps187;go_wp2_with (first|(go_at_call 202;refine(A.out _ (by exact(by go_grown))).mono ?_;rintro e r ⟨rfl,c⟩;have j:Below w.heap.size w r:=zP (by go_grown) c (zf _);have u:=(Py.new w #[.int .i64 a,v] 204).below c))
  go_loopw [6,7] (fun F y wr=>∃k:Nat,k<=b/\y=.int .i64 k/\F=.int .i64 ((List.range k).countP (zH ⟨a,ts⟩):Nat)/\Below r.heap.size r wr) (fun _ y _=>b-(intOf y).toNat)
  case atStart=>exact⟨0,zx _,rfl,rfl,zo _ _⟩
  case round=>
   obtain⟨k,H,rfl,rfl,d⟩:=hrel;have o:=P3 j d;have n:=u.below d;obtain⟨G,J⟩:=n.rules;have C:(List.range k).countP (zH ⟨a,ts⟩)<=k:=by have:=rh (p:=zH ⟨a,ts⟩) (l:=List.range k);simpa using this
   by_cases E:k<b
   ·have s:=C3 (zH ⟨a,ts⟩) k;have t:=Px (x.out wr k o);cases f:zH ⟨a,ts⟩ k with
    |false=>
     rw[f] at s t;have g:Hid ((List.range (k+1)).countP (zH ⟨a,ts⟩)=(List.range k).countP (zH ⟨a,ts⟩)):=by rw[Hid,s];simp
     go_wp2_with (first|(go_at_call 202;refine t.out.mono ?_;rintro e D ⟨rfl,i⟩))
     go_roundw
     case rel=>exact⟨k+1,by omega,by go_num,by rw[g.out],P3 d i⟩
     case measure=>simp[intOf];omega
    |true=>
     rw[f] at s t;have g:Hid ((List.range (k+1)).countP (zH ⟨a,ts⟩)=(List.range k).countP (zH ⟨a,ts⟩)+1):=by rw[Hid,s];simp
     go_wp2_with (first|(go_at_call 202;refine t.out.mono ?_;rintro e D ⟨rfl,i⟩))
     go_roundw
     case rel=>exact⟨k+1,by omega,by go_num,by rw[g.out];go_num,P3 d i⟩
     case measure=>simp[intOf];omega
   ·obtain rfl:k=b:=by omega
    go_wp2;go_ret2
    exact⟨by rw[z.out];rfl,o⟩
theorem o9(w:World)(v:Value)(a:Nat)(ts:List ya)(h:yh lo w v ts):
  Calls prog 212 #[.agg #[.int .i64 a,v]] w fun e r=>e=.returned (.int .i64 (yM ⟨a,ts⟩:Nat))/\Below w.heap.size w r:=by
 have s:=Px fun W p y=>C4 W v a p ts (h.below y);have n:=Py.new w #[.int .i64 a,v] 204;have A:Hid (yM ⟨a,ts⟩=(List.range 5).countP (zH ⟨a,ts⟩)):=rfl;go_enter func212,ntmps212;go_wp2;go_loopw [3,4] (fun z o wr=>∃k:Nat,k<=5/\o=.int .i64 k/\z=.int .i64 ((List.range k).countP (zH ⟨a,ts⟩):Nat)/\Below (w.heap.size+1) (w.alloc (.cells #[.int .i64 a,v] 204)) wr) (fun _ o _=>5-(intOf o).toNat)
 case atStart=>exact⟨0,zx _,rfl,rfl,zo _ _⟩
 case round=>
  obtain⟨k,C,rfl,rfl,b⟩:=hrel;have f:Below (w.alloc (.cells #[.int .i64 a,v] 204)).heap.size (w.alloc (.cells #[.int .i64 a,v] 204)) wr:=by simpa using b
  have i:Below w.heap.size w wr:=zP (by go_grown) f (zf _);have g:=n.below f;obtain⟨B,D⟩:=g.rules;have t:(List.range k).countP (zH ⟨a,ts⟩)<=k:=by have:=rh (p:=zH ⟨a,ts⟩) (l:=List.range k);simpa using this
  by_cases x:k<5
  ·have j:=C3 (zH ⟨a,ts⟩) k;have m:=Px (s.out wr k i);cases q:zH ⟨a,ts⟩ k with
   |false=>
    rw[q] at j m;have c:Hid ((List.range (k+1)).countP (zH ⟨a,ts⟩)=(List.range k).countP (zH ⟨a,ts⟩)):=by rw[Hid,j];simp
    go_wp2_with (first|(go_at_call 202;refine m.out.mono ?_;rintro e u ⟨rfl,d⟩))
    go_roundw
    case rel=>exact⟨k+1,by omega,by go_num,by rw[c.out],zP b d (by simp)⟩
    case measure=>simp[intOf];omega
   |true=>
    rw[q] at j m;have c:Hid ((List.range (k+1)).countP (zH ⟨a,ts⟩)=(List.range k).countP (zH ⟨a,ts⟩)+1):=by rw[Hid,j];simp
    go_wp2_with (first|(go_at_call 202;refine m.out.mono ?_;rintro e u ⟨rfl,d⟩))
    go_roundw
    case rel=>exact⟨k+1,by omega,by go_num,by rw[c.out];go_num,zP b d (by simp)⟩
    case measure=>simp[intOf];omega
  ·obtain rfl:k=5:=by omega
   go_wp2;go_ret;exact⟨by rw[A.out];rfl,i⟩
theorem rt{α β:Type}(l:List α)(f:β->α->β)(b:β)(k:Nat)(a:k<l.length):(l.take (k+1)).foldl f b=f ((l.take k).foldl f b) l[k]:=by
 rw[yP a,js];rfl
def dQ(k:Nat)(t:ya):Nat:=if t.var&&decide (t.num≥k) then t.num+1 else k
theorem Fo(l:zt):uC l=l.qg.foldl dQ 0:=rfl
theorem Dq(w:World)(v:Value)(f:Nat)(ts:List ya)(h:yh lo w v ts):
  Calls prog 222 #[.agg #[.int .i64 f,v]] w fun e q=>e=.returned (.int .i64 (uC ⟨f,ts⟩:Nat))/\Below w.heap.size w q:=by
 obtain⟨E,B,rfl⟩:=h.qx;have G:=h.len;have D:Hid (uC ⟨f,ts⟩=ts.foldl dQ 0):=Fo _;go_enter func222,ntmps222;go_wp2;go_loopw [3,9] (fun C p wr=>∃k:Nat,k<=ts.length/\p=.int .i64 k/\C=.int .i64 ((ts.take k).foldl dQ 0:Nat)/\Below w.heap.size w wr) (fun _ i _=>ts.length-(intOf i).toNat)
 case atStart=>exact⟨0,zx _,rfl,rfl,(by go_grown)⟩
 case round=>
  obtain⟨k,F,rfl,rfl,a⟩:=hrel;have b:=a.size;by_cases d:k<ts.length
  ·obtain⟨g,rfl,l,y,A,u⟩:=h.cell k d;have x:=zm a l y;have s:=zm a l A;have r:=zm a l u;have z:=(h.num _ (zv d)).1;have m:=Px (rt ts dQ 0 k d);generalize ts[k]=t at *;generalize (ts.take k).foldl dQ 0=j at *;cases n:t.var with
   |false=>
    have c:Hid ((ts.take (k+1)).foldl dQ 0=j):=by rw[Hid,m.out];simp[dQ,n]
    go_wp2;go_roundw
    case rel=>exact⟨k+1,by omega,by go_num,by rw[c.out],a.alloc b _⟩
    case measure=>simp[intOf];omega
   |true=>
    by_cases o:t.num≥j
    ·have c:Hid ((ts.take (k+1)).foldl dQ 0=t.num+1):=by rw[Hid,m.out];simp[dQ,n,o]
     go_wp2;go_roundw
     case rel=>exact⟨k+1,by omega,by go_num,by rw[c.out];go_num,a.alloc b _⟩
     case measure=>simp[intOf];omega
    ·have c:Hid ((ts.take (k+1)).foldl dQ 0=j):=by rw[Hid,m.out];simp[dQ,o]
     go_wp2;go_roundw
     case rel=>exact⟨k+1,by omega,by go_num,by rw[c.out],a.alloc b _⟩
     case measure=>simp[intOf];omega
  ·rw[xi (by omega)];go_wp2;go_ret;exact⟨by rw[D.out];rfl,a⟩
def gc(jd k:Int)(t:ya):Int:=if t.var&&decide ((t.num:Int)<jd)&&decide ((t.num:Int)>k) then(t.num:Int) else k
theorem Oq(l:zt)(jd:Int):jP l jd=l.qg.foldl (gc jd) (-1):=rfl
theorem CL(w:World)(v:Value)(m:Nat)(d:Int)(ts:List ya)(h:yh lo w v ts):
  Calls prog 225 #[.agg #[.int .i64 m,v],.int .i64 d] w fun e u=>e=.returned (.int .i64 (jP ⟨m,ts⟩ d))/\Below w.heap.size w u:=by
 obtain⟨F,D,rfl⟩:=h.qx;have H:=h.len;have E:Hid (jP ⟨m,ts⟩ d=ts.foldl (gc d) (-1)):=Oq _ _;go_enter func225,ntmps225;go_wp2;go_loopw [5,11] (fun x n wr=>∃k:Nat,k<=ts.length/\n=.int .i64 k/\x=.int .i64 ((ts.take k).foldl (gc d) (-1))/\Below w.heap.size w wr) (fun _ i _=>ts.length-(intOf i).toNat)
 case atStart=>exact⟨0,zx _,rfl,rfl,(by go_grown)⟩
 case round=>
  obtain⟨k,G,rfl,rfl,a⟩:=hrel;have c:=a.size;by_cases f:k<ts.length
  ·obtain⟨g,rfl,o,B,C,z⟩:=h.cell k f;have A:=zm a o B;have y:=zm a o C;have s:=zm a o z;have l:=Px (rt ts (gc d) (-1) k f);generalize ts[k]=t at *;generalize (ts.take k).foldl (gc d) (-1)=j at *;cases p:t.var with
   |false=>
    have b:Hid ((ts.take (k+1)).foldl (gc d) (-1)=j):=by rw[Hid,l.out];simp[gc,p]
    go_wp2;go_roundw
    case rel=>exact⟨k+1,by omega,by go_num,by rw[b.out],a.alloc c _⟩
    case measure=>simp[intOf];omega
   |true=>
    by_cases r:(t.num:Int)<d
    ·by_cases q:(t.num:Int)>j
     ·have b:Hid ((ts.take (k+1)).foldl (gc d) (-1)=(t.num:Int)):=by rw[Hid,l.out];simp[gc,p,r,q]
      go_wp2;go_roundw
      case rel=>exact⟨k+1,by omega,by go_num,by rw[b.out],a.alloc c _⟩
      case measure=>simp[intOf];omega
     ·have b:Hid ((ts.take (k+1)).foldl (gc d) (-1)=j):=by rw[Hid,l.out];simp[gc,q]
      go_wp2;go_roundw
      case rel=>exact⟨k+1,by omega,by go_num,by rw[b.out],a.alloc c _⟩
      case measure=>simp[intOf];omega
    ·have b:Hid ((ts.take (k+1)).foldl (gc d) (-1)=j):=by rw[Hid,l.out];simp[gc,r]
     go_wp2;go_roundw
     case rel=>exact⟨k+1,by omega,by go_num,by rw[b.out],a.alloc c _⟩
     case measure=>simp[intOf];omega
  ·rw[xi (by omega)];go_wp2;go_ret;exact⟨by rw[E.out];rfl,a⟩
theorem oU(w:World)(v:Value)(b:Nat)(d:Int)(ts:List ya)(h:yh lo w v ts):
  Calls prog 226 #[.agg #[.int .i64 b,v],.int .i64 d] w fun e p=>e=.returned (.int .i64 (vY ⟨b,ts⟩ d))/\Below w.heap.size w p:=by
 have m:=Px fun W k=>Dq W v b ts (h.below k);have n:=Px fun W k=>CL W v b d ts (h.below k);have f:Hid (vY ⟨b,ts⟩ d=if (uC ⟨b,ts⟩:Int)<=d then -1 else jP ⟨b,ts⟩ d):=rfl;generalize uC ⟨b,ts⟩=o at *;by_cases l:(o:Int)<=d
 ·rw[zb l] at f;go_enter func226,ntmps226;go_wp2_with (first|(go_at_call 222;refine(m.out _ (by exact(by go_grown))).mono ?_;rintro e j ⟨rfl,a⟩;have c:Below w.heap.size w j:=zP (by go_grown) a (zf _)))
  go_ret;exact⟨by rw[f.out];rfl,c⟩
 ·rw[za l] at f;go_enter func226,ntmps226;go_wp2_with (first|(go_at_call 222;refine(m.out _ (by exact(by go_grown))).mono ?_;rintro e j ⟨rfl,a⟩;have c:Below w.heap.size w j:=zP (by go_grown) a (zf _);have g:=(Py.new w #[.int .i64 b,v] 204).below a;obtain⟨t,q,s⟩:=g.boxed)|(go_at_call 225;refine(n.out _ c).mono ?_;rintro e r ⟨rfl,i⟩))
  go_ret;exact⟨by rw[f.out];rfl,P3 c i⟩
theorem Er(a b:Nat):((a:Int) == (b:Int))=(a == b):=by
 by_cases h:a=b
 ·subst h;rw[beq_self_eq_true,beq_self_eq_true]
 ·rw[beq_eq_false_iff_ne.2 (by omega:(a:Int)≠(b:Int)),beq_eq_false_iff_ne.2 h]
def nu(t:ya):Value:=.agg #[.bool t.var,.int .i64 t.num,.int .i64 t.level]
def Ra(x y z:Nat):Value:=.agg #[.int .i64 x,.int .i64 y,.int .i64 z]
def rp(a b c d e:Nat):Value:=.agg #[.int .i64 a,.int .i64 b,.int .i64 c,.int .i64 d,.int .i64 e]
theorem iP(w:World)(t:ya)(a b c d e:Nat):
  Calls prog 188 #[nu t,rp a b c d e] w fun r j=>r=.returned (.int .i64 (QJ t [a,b,c,d,e]:Nat))/\Below w.heap.size w j:=by
 obtain⟨i,n,g⟩:=t;unfold nu rp;simp only;cases i with
 |false=>
  have f:Hid (QJ ⟨false,n,g⟩ [a,b,c,d,e]=n):=rfl;go_enter func188,ntmps188;go_wp2;go_ret;exact⟨by rw[f.out];rfl,(by go_grown)⟩
 |true=>
  by_cases h:n<5
  ·have f:Hid (QJ ⟨true,n,g⟩ [a,b,c,d,e]=[a,b,c,d,e].getD n 0):=by simp[Hid,QJ,h]
   obtain rfl|rfl|rfl|rfl|rfl:n=0∨n=1∨n=2∨n=3∨n=4:=by omega
   all_goals
    go_enter func188,ntmps188;go_wp2;go_ret;exact⟨by rw[f.out];rfl,(by go_grown)⟩
  ·have f:Hid (QJ ⟨true,n,g⟩ [a,b,c,d,e]=n):=by simp[Hid,QJ,h]
   go_enter func188,ntmps188;go_wp2;go_ret;exact⟨by rw[f.out];rfl,(by go_grown)⟩
theorem ty(w:World)(t:ya):
  Calls prog 218 #[nu t] w fun r e=>r=.returned (.bool (leveled t))/\Below w.heap.size w e:=by
 obtain⟨d,n,b⟩:=t;unfold nu;simp only;cases d with
 |false=>
  have a:Hid (leveled ⟨false,n,b⟩=false):=rfl;go_enter func218,ntmps218;go_wp2;go_ret;exact⟨by rw[a.out];rfl,(by go_grown)⟩
 |true=>
  by_cases c:b<3
  ·have a:Hid (leveled ⟨true,n,b⟩=true):=by simp[Hid,leveled,c]
   go_enter func218,ntmps218;go_wp2;go_ret;exact⟨by rw[a.out];simp;omega,(by go_grown)⟩
  ·have a:Hid (leveled ⟨true,n,b⟩=false):=by simp[Hid,leveled,c]
   go_enter func218,ntmps218;go_wp2;go_ret;exact⟨by rw[a.out];simp;omega,(by go_grown)⟩
theorem wU(w:World)(t:ya)(v x y z:Nat):
  Calls prog 219 #[nu t,.int .i64 v,Ra x y z] w fun r m=>r=.returned (.bool (jy t v [x,y,z]))/\Below w.heap.size w m:=by
 have e:=Px fun W=>ty W t;have g:Hid (jy t v [x,y,z]=if leveled t then [x,y,z].getD t.level 0 == v else t.num == v):=rfl;have d:leveled t=true->t.level<3:=by simp[leveled]
 generalize leveled t=p at *;obtain⟨h,n,f⟩:=t;unfold nu at e ⊢;unfold Ra;simp only at e d g ⊢;cases p with
 |false=>
  go_enter func219,ntmps219;go_wp2_with (first|(go_at_call 218;refine(e.out _).mono ?_;rintro r j ⟨rfl,a⟩;have c:Below w.heap.size w j:=zP (by go_grown) a (zf _);have b:=((Py.new w #[.bool h,.int .i64 n,.int .i64 f] 284).below ((zo _ _).alloc (zf _) (.cells #[.int .i64 x,.int .i64 y,.int .i64 z] 165))).below a;obtain⟨q,s,A⟩:=b.boxed))
  go_ret;exact⟨by rw[g.out];simp[Er],c⟩
 |true=>
  have u:=d rfl;obtain rfl|rfl|rfl:f=0∨f=1∨f=2:=by omega
  all_goals
   go_enter func219,ntmps219;go_wp2_with (first|(go_at_call 218;refine(e.out _).mono ?_;rintro r j ⟨rfl,a⟩;have c:Below w.heap.size w j:=zP (by go_grown) a (zf _);have b:=((Py.new w #[.bool h,.int .i64 n,.int .i64 _] 284).below ((zo _ _).alloc (zf _) (.cells #[.int .i64 x,.int .i64 y,.int .i64 z] 165))).below a;obtain⟨q,s,A⟩:=b.boxed;have i:=(Py.newAt (w.alloc (.cells #[.bool h,.int .i64 n,.int .i64 _] 284)) (w.heap.size+1) #[.int .i64 x,.int .i64 y,.int .i64 z] 165 (by simp)).below a;obtain⟨k,l,o⟩:=i.boxed))
   go_ret;exact⟨by rw[g.out];simp[Er],c⟩
def lS(l:zt)(vals:List Nat):Nat->Array Value
 |0=>#[.int .i64 0,.int .i64 0,.int .i64 0]
 |1=>#[.int .i64 ((Pz l vals 0:Nat):Int),.int .i64 0,.int .i64 0]
 |2=>#[.int .i64 ((Pz l vals 0:Nat):Int),.int .i64 ((Pz l vals 1:Nat):Int),.int .i64 0]
 |_=>#[.int .i64 ((Pz l vals 0:Nat):Int),.int .i64 ((Pz l vals 1:Nat):Int),.int .i64 ((Pz l vals 2:Nat):Int)]
theorem tX(w:World)(v:Value)(o:Nat)(ts:List ya)(a b c d e:Nat)(h:yh lo w v ts):
  Calls prog 161 #[.agg #[.int .i64 o,v],rp a b c d e] w fun r Z=>r=.returned (.agg #[.int .i64 ((Pz ⟨o,ts⟩ [a,b,c,d,e] 0:Nat):Int),.int .i64 ((Pz ⟨o,ts⟩ [a,b,c,d,e] 1:Nat):Int),.int .i64 ((Pz ⟨o,ts⟩ [a,b,c,d,e] 2:Nat):Int)])/\Below w.heap.size w Z:=by
 obtain⟨ao,ad,rfl⟩:=h.qx;have hl:=h.len;unfold rp;go_enter func161,ntmps161;go_wp2;go_loopw [7] (fun v7 wr=>∃k:Nat,k<=3/\v7=.int .i64 k/\Py wr w.heap.size #[.int .i64 o,.slice ao ts.length ad] 204/\Py wr (w.heap.size+1) #[.int .i64 a,.int .i64 b,.int .i64 c,.int .i64 d,.int .i64 e] 262/\Py wr (w.heap.size+2) #[.int .i64 0,.int .i64 0,.int .i64 0] 165/\Py wr (w.heap.size+3) (lS ⟨o,ts⟩ [a,b,c,d,e] k) 165/\Below w.heap.size w wr) (fun i _=>3-(intOf i).toNat)
 case atStart=>exact⟨0,by omega,rfl,(((Py.new w _ _).below zQ).below zQ).below zQ,((Py.newAt _ _ _ _ (by simp)).below zQ).below zQ,(Py.newAt _ _ _ _ (by simp)).below zQ,Py.newAt _ _ _ _ (by simp),(by go_grown)⟩
 case round=>
  obtain⟨k,hk,rfl,z,B,A,M,j⟩:=hrel;obtain⟨am,ah,ag⟩:=z.boxed;obtain⟨ai,aj,al⟩:=B.boxed;have ae:=j.size;match k,hk with
  |0,_=>
   have m:Py wr (w.heap.size+3) #[.int .i64 0,.int .i64 0,.int .i64 0] 165:=M;obtain⟨Y,X,aa⟩:=m.boxed;by_cases x:0<ts.length
   ·obtain⟨g,G,L,T,U,S⟩:=h.cell 0 x;subst G;have I:=zm j L T;have H:=zm j L U;have D:=zm j L S;simp only[Nat.reduceMul,Nat.reduceAdd] at I H D;have ab:g<wr.heap.size:=by omega
    have C:Hid (Pz ⟨o,ts⟩ [a,b,c,d,e] 0=QJ ts[0] [a,b,c,d,e]):=by simp[Hid,Pz,x,List.getD_eq_getElem?_getD]
    have y:Hid (∀W,Calls prog 188 #[.agg #[.bool ts[0].var,.int .i64 (ts[0].num:Nat),.int .i64 (ts[0].level:Nat)],.agg #[.int .i64 a,.int .i64 b,.int .i64 c,.int .i64 d,.int .i64 e]] W fun r Z=>r=.returned (.int .i64 ((Pz ⟨o,ts⟩ [a,b,c,d,e] 0:Nat):Int))/\Below W.heap.size W Z):=fun W=>by rw[C.out];exact iP W ts[0] a b c d e
    clear T U S C;generalize ts[0]=t at *;obtain⟨u,s⟩:∃u,u=Pz ⟨o,ts⟩ [a,b,c,d,e] 0:=⟨_,rfl⟩;rw[←s] at y;have J:=Px s.symm;clear s;go_wp2;go_region_with (go_at_call 188;refine(y.out _).mono ?_;rintro r w2 ⟨rfl,E⟩;have l:Below wr.heap.size wr w2:=(zP (by go_grown) E (zf _));have f:=m.below l;obtain⟨R,V,Q⟩:=f.boxed)
    all_goals
     have n:=f.set 0 (.int .i64 u);simp at n;have N:=(z.below l).set_ne (show w.heap.size≠w.heap.size+3 from by omega) 0 (.int .i64 u);have F:=(B.below l).set_ne (show w.heap.size+1≠w.heap.size+3 from by omega) 0 (.int .i64 u);have K:=(A.below l).set_ne (show w.heap.size+2≠w.heap.size+3 from by omega) 0 (.int .i64 u);have O:=(P3 j l).setCell (p:=⟨w.heap.size+3,0,none⟩) (by simp) (.int .i64 u);go_wp2;go_roundw
     case rel=>exact⟨1,by omega,rfl,N,F,K,(by simp only[lS,J.out];exact n),O⟩
     case measure=>simp[intOf]
   ·have C:Hid (Pz ⟨o,ts⟩ [a,b,c,d,e] 0=0):=by simp[Hid,Pz,x]
    have P:ts.length<=0:=by omega
    go_wp2;go_roundw
    case rel=>exact⟨1,by omega,rfl,z,B,A,(by have q:=m;simp only[lS,C.out];exact q),j⟩
    case measure=>simp[intOf]
  |1,_=>
   have m:Py wr (w.heap.size+3) #[.int .i64 ((Pz ⟨o,ts⟩ [a,b,c,d,e] 0:Nat):Int),.int .i64 0,.int .i64 0] 165:=M;obtain⟨Y,X,aa⟩:=m.boxed;by_cases x:1<ts.length
   ·obtain⟨g,G,L,T,U,S⟩:=h.cell 1 x;subst G;have I:=zm j L T;have H:=zm j L U;have D:=zm j L S;simp only[Nat.reduceMul,Nat.reduceAdd] at I H D;have ab:g<wr.heap.size:=by omega
    have C:Hid (Pz ⟨o,ts⟩ [a,b,c,d,e] 1=QJ ts[1] [a,b,c,d,e]):=by simp[Hid,Pz,x,List.getD_eq_getElem?_getD]
    have y:Hid (∀W,Calls prog 188 #[.agg #[.bool ts[1].var,.int .i64 (ts[1].num:Nat),.int .i64 (ts[1].level:Nat)],.agg #[.int .i64 a,.int .i64 b,.int .i64 c,.int .i64 d,.int .i64 e]] W fun r Z=>r=.returned (.int .i64 ((Pz ⟨o,ts⟩ [a,b,c,d,e] 1:Nat):Int))/\Below W.heap.size W Z):=fun W=>by rw[C.out];exact iP W ts[1] a b c d e
    clear T U S C;generalize ts[1]=t at *;obtain⟨u,s⟩:∃u,u=Pz ⟨o,ts⟩ [a,b,c,d,e] 1:=⟨_,rfl⟩;rw[←s] at y;have J:=Px s.symm;clear s;go_wp2;go_region_with (go_at_call 188;refine(y.out _).mono ?_;rintro r w2 ⟨rfl,E⟩;have l:Below wr.heap.size wr w2:=(zP (by go_grown) E (zf _));have f:=m.below l;obtain⟨R,V,Q⟩:=f.boxed)
    all_goals
     have n:=f.set 1 (.int .i64 u);simp at n;have N:=(z.below l).set_ne (show w.heap.size≠w.heap.size+3 from by omega) 1 (.int .i64 u);have F:=(B.below l).set_ne (show w.heap.size+1≠w.heap.size+3 from by omega) 1 (.int .i64 u);have K:=(A.below l).set_ne (show w.heap.size+2≠w.heap.size+3 from by omega) 1 (.int .i64 u);have O:=(P3 j l).setCell (p:=⟨w.heap.size+3,1,none⟩) (by simp) (.int .i64 u);go_wp2;go_roundw
     case rel=>exact⟨2,by omega,rfl,N,F,K,(by simp only[lS,J.out];exact n),O⟩
     case measure=>simp[intOf]
   ·have C:Hid (Pz ⟨o,ts⟩ [a,b,c,d,e] 1=0):=by simp[Hid,Pz,x]
    have P:ts.length<=1:=by omega
    go_wp2;go_roundw
    case rel=>exact⟨2,by omega,rfl,z,B,A,(by have q:=m;simp only[lS,C.out];exact q),j⟩
    case measure=>simp[intOf]
  |2,_=>
   have m:Py wr (w.heap.size+3) #[.int .i64 ((Pz ⟨o,ts⟩ [a,b,c,d,e] 0:Nat):Int),.int .i64 ((Pz ⟨o,ts⟩ [a,b,c,d,e] 1:Nat):Int),.int .i64 0] 165:=M;obtain⟨Y,X,aa⟩:=m.boxed;by_cases x:2<ts.length
   ·obtain⟨g,G,L,T,U,S⟩:=h.cell 2 x;subst G;have I:=zm j L T;have H:=zm j L U;have D:=zm j L S;simp only[Nat.reduceMul,Nat.reduceAdd] at I H D;have ab:g<wr.heap.size:=by omega
    have C:Hid (Pz ⟨o,ts⟩ [a,b,c,d,e] 2=QJ ts[2] [a,b,c,d,e]):=by simp[Hid,Pz,x,List.getD_eq_getElem?_getD]
    have y:Hid (∀W,Calls prog 188 #[.agg #[.bool ts[2].var,.int .i64 (ts[2].num:Nat),.int .i64 (ts[2].level:Nat)],.agg #[.int .i64 a,.int .i64 b,.int .i64 c,.int .i64 d,.int .i64 e]] W fun r Z=>r=.returned (.int .i64 ((Pz ⟨o,ts⟩ [a,b,c,d,e] 2:Nat):Int))/\Below W.heap.size W Z):=fun W=>by rw[C.out];exact iP W ts[2] a b c d e
    clear T U S C;generalize ts[2]=t at *;obtain⟨u,s⟩:∃u,u=Pz ⟨o,ts⟩ [a,b,c,d,e] 2:=⟨_,rfl⟩;rw[←s] at y;have J:=Px s.symm;clear s;go_wp2;go_region_with (go_at_call 188;refine(y.out _).mono ?_;rintro r w2 ⟨rfl,E⟩;have l:Below wr.heap.size wr w2:=(zP (by go_grown) E (zf _));have f:=m.below l;obtain⟨R,V,Q⟩:=f.boxed)
    all_goals
     have n:=f.set 2 (.int .i64 u);simp at n;have N:=(z.below l).set_ne (show w.heap.size≠w.heap.size+3 from by omega) 2 (.int .i64 u);have F:=(B.below l).set_ne (show w.heap.size+1≠w.heap.size+3 from by omega) 2 (.int .i64 u);have K:=(A.below l).set_ne (show w.heap.size+2≠w.heap.size+3 from by omega) 2 (.int .i64 u);have O:=(P3 j l).setCell (p:=⟨w.heap.size+3,2,none⟩) (by simp) (.int .i64 u);go_wp2;go_roundw
     case rel=>exact⟨3,by omega,rfl,N,F,K,(by simp only[lS,J.out];exact n),O⟩
     case measure=>simp[intOf]
   ·have C:Hid (Pz ⟨o,ts⟩ [a,b,c,d,e] 2=0):=by simp[Hid,Pz,x]
    have P:ts.length<=2:=by omega
    go_wp2;go_roundw
    case rel=>exact⟨3,by omega,rfl,z,B,A,(by have q:=m;simp only[lS,C.out];exact q),j⟩
    case measure=>simp[intOf]
  |3,_=>
   simp only[lS] at M;obtain⟨Y,X,aa⟩:=M.boxed;obtain⟨ac,af,ak⟩:=A.boxed;go_wp2;exact zK (v:=.agg #[.int .i64 ((Pz ⟨o,ts⟩ [a,b,c,d,e] 0:Nat):Int),.int .i64 ((Pz ⟨o,ts⟩ [a,b,c,d,e] 1:Nat):Int),.int .i64 ((Pz ⟨o,ts⟩ [a,b,c,d,e] 2:Nat):Int)]) (by simp[results,results161,go_sem,ac]) rfl ⟨rfl,((j.setCell (p:=⟨w.heap.size+2,0,none⟩) (by simp) _).setCell (p:=⟨w.heap.size+2,1,none⟩) (by simp) _).setCell (p:=⟨w.heap.size+2,2,none⟩) (by simp) _⟩
def uV(l:zt)(row:zk):Nat->zk
 |0=>[0,0,0]
 |k+1=>qD l row (uV l row k) k
theorem JX{l:zt}{row f:zk}(a:ul l row=f):xy l row=if (xr l row f 0&&xr l row f 1&&xr l row f 2)=true then some f else none:=by unfold xy;rw[a]
theorem Gx(l:zt)(row:zk):ul l row=uV l row 3:=rfl
theorem MU(w:World)(v:Value)(B:Nat)(ts:List ya)(f j r2:Nat)(h:yh lo w v ts):
  Calls prog 213 #[.agg #[.int .i64 B,v],Ra f j r2] w fun r E=>(∃x y z:Nat,r=.returned (.tuple #[Ra x y z,.bool (xy ⟨B,ts⟩ [f,j,r2]).isSome])/\[x,y,z]=(xy ⟨B,ts⟩ [f,j,r2]).getD [0,0,0])/\Below w.heap.size w E:=by
 obtain⟨ao,ad,rfl⟩:=h.qx;have hl:=h.len;have a9:=OS (.int .i64 f) (.int .i64 j) (.int .i64 r2);have aB:=Pw (.int .i64 f) (.int .i64 j) (.int .i64 r2);have aA:=OT (.int .i64 f) (.int .i64 j) (.int .i64 r2);unfold Ra;go_enter func213,ntmps213;go_wp2;go_loopw [12] (fun a4 wr=>∃k x y z:Nat,k<=3/\a4=.int .i64 k/\Py wr w.heap.size #[.int .i64 B,.slice ao ts.length ad] 204/\Py wr (w.heap.size+1) #[.int .i64 f,.int .i64 j,.int .i64 r2] 165/\Py wr (w.heap.size+2) #[.int .i64 0,.int .i64 0,.int .i64 0] 165/\Py wr (w.heap.size+3) #[.int .i64 (x:Nat),.int .i64 (y:Nat),.int .i64 (z:Nat)] 165/\Hid (uV ⟨B,ts⟩ [f,j,r2] k=[x,y,z])/\Below w.heap.size w wr) (fun i _=>3-(intOf i).toNat)
 case atStart=>exact⟨0,0,0,0,by omega,rfl,(((Py.new w _ _).below zQ).below zQ).below zQ,((Py.newAt _ _ _ _ (by simp)).below zQ).below zQ,(Py.newAt _ _ _ _ (by simp)).below zQ,Py.newAt _ _ _ _ (by simp),rfl,(by go_grown)⟩
 case round=>
  obtain⟨k,x,y,z,hk,rfl,o,s,q,m,S,b⟩:=hrel;obtain⟨au,ay,av⟩:=o.boxed;obtain⟨aq,ar,a0⟩:=s.boxed;obtain⟨a2,a3,az⟩:=m.boxed;have am:=b.size;match k,hk with
  |0,_=>
   by_cases D:0<ts.length
   ·have n:Hid (uV ⟨B,ts⟩ [f,j,r2] 1=if leveled ts[0]=true then [x,y,z].set ts[0].level f else [x,y,z]):=by
     rw[Hid,uV,S.out];simp[qD,D,List.getD_eq_getElem?_getD]
    obtain⟨g,R,Q,h0,h1,h2⟩:=h.cell 0 D;subst R;have M:=zm b Q h0;have L:=zm b Q h1;have I:=zm b Q h2;simp only[Nat.reduceMul,Nat.reduceAdd] at M L I;have C:g<wr.heap.size:=by omega
    have aa:Hid (∀W,Calls prog 218 #[.agg #[.bool ts[0].var,.int .i64 (ts[0].num:Nat),.int .i64 (ts[0].level:Nat)]] W fun r E=>r=.returned (.bool (leveled ts[0]))/\Below W.heap.size W E):=fun W=>ty W ts[0];have O:leveled ts[0]=true->ts[0].level<3:=by simp[leveled]
    clear h0 h1 h2;generalize ts[0]=t at *;generalize leveled t=lb at *;cases lb with
    |false=>
     simp only[gx,if_false] at n;go_wp2_with (first|(go_at_call 218;refine(aa.out _).mono ?_;rintro r w2 ⟨rfl,c⟩))
     go_roundw
     case rel=>exact⟨1,x,y,z,by omega,rfl,o.below c,s.below c,q.below c,m.below c,n,P3 b c⟩
     case measure=>simp[intOf]
    |true=>
     simp only[if_true] at n;have ax:=O rfl;clear O;generalize ah:t.level=lv at *;clear ah;go_wp2_with (first|(go_at_call 218;refine(aa.out _).mono ?_;rintro r w2 ⟨rfl,c⟩;have a:=c;have u:=o.below c;obtain⟨Y,T,ac⟩:=u.boxed;have ag:=zm c C I;have A:=m.below c;obtain⟨Z,X,V⟩:=A.boxed;have al:=(xG C c.size);obtain rfl|rfl|rfl:lv=0∨lv=1∨lv=2:=(by omega)))
     ·have J:Hid (uV ⟨B,ts⟩ [f,j,r2] 1=[f,y,z]):=by rw[Hid,n.out];rfl
      have d:=(m.below a).set 0 (.int .i64 f);simp at d;have G:=(o.below a).set_ne (show w.heap.size≠w.heap.size+3 from by omega) 0 (.int .i64 f);have K:=(s.below a).set_ne (show w.heap.size+1≠w.heap.size+3 from by omega) 0 (.int .i64 f);have F:=(q.below a).set_ne (show w.heap.size+2≠w.heap.size+3 from by omega) 0 (.int .i64 f);have H:=(P3 b a).setCell (p:=⟨w.heap.size+3,0,none⟩) (by simp) (.int .i64 f);go_wp2;go_roundw
      case rel=>exact⟨1,f,y,z,by omega,rfl,G,K,F,d,J,H⟩
      case measure=>simp[intOf]
     ·have J:Hid (uV ⟨B,ts⟩ [f,j,r2] 1=[x,f,z]):=by rw[Hid,n.out];rfl
      have d:=(m.below a).set 1 (.int .i64 f);simp at d;have G:=(o.below a).set_ne (show w.heap.size≠w.heap.size+3 from by omega) 1 (.int .i64 f);have K:=(s.below a).set_ne (show w.heap.size+1≠w.heap.size+3 from by omega) 1 (.int .i64 f);have F:=(q.below a).set_ne (show w.heap.size+2≠w.heap.size+3 from by omega) 1 (.int .i64 f);have H:=(P3 b a).setCell (p:=⟨w.heap.size+3,1,none⟩) (by simp) (.int .i64 f);go_wp2;go_roundw
      case rel=>exact⟨1,x,f,z,by omega,rfl,G,K,F,d,J,H⟩
      case measure=>simp[intOf]
     ·have J:Hid (uV ⟨B,ts⟩ [f,j,r2] 1=[x,y,f]):=by rw[Hid,n.out];rfl
      have d:=(m.below a).set 2 (.int .i64 f);simp at d;have G:=(o.below a).set_ne (show w.heap.size≠w.heap.size+3 from by omega) 2 (.int .i64 f);have K:=(s.below a).set_ne (show w.heap.size+1≠w.heap.size+3 from by omega) 2 (.int .i64 f);have F:=(q.below a).set_ne (show w.heap.size+2≠w.heap.size+3 from by omega) 2 (.int .i64 f);have H:=(P3 b a).setCell (p:=⟨w.heap.size+3,2,none⟩) (by simp) (.int .i64 f);go_wp2;go_roundw
      case rel=>exact⟨1,x,y,f,by omega,rfl,G,K,F,d,J,H⟩
      case measure=>simp[intOf]
   ·have n:Hid (uV ⟨B,ts⟩ [f,j,r2] 1=[x,y,z]):=by
     rw[Hid,uV,S.out];simp[qD,D]
    have ak:ts.length<=0:=by omega
    go_wp2;go_roundw
    case rel=>exact⟨1,x,y,z,by omega,rfl,o,s,q,m,n,b⟩
    case measure=>simp[intOf]
  |1,_=>
   by_cases D:1<ts.length
   ·have n:Hid (uV ⟨B,ts⟩ [f,j,r2] 2=if leveled ts[1]=true then [x,y,z].set ts[1].level j else [x,y,z]):=by
     rw[Hid,uV,S.out];simp[qD,D,List.getD_eq_getElem?_getD]
    obtain⟨g,R,Q,h0,h1,h2⟩:=h.cell 1 D;subst R;have M:=zm b Q h0;have L:=zm b Q h1;have I:=zm b Q h2;simp only[Nat.reduceMul,Nat.reduceAdd] at M L I;have C:g<wr.heap.size:=by omega
    have aa:Hid (∀W,Calls prog 218 #[.agg #[.bool ts[1].var,.int .i64 (ts[1].num:Nat),.int .i64 (ts[1].level:Nat)]] W fun r E=>r=.returned (.bool (leveled ts[1]))/\Below W.heap.size W E):=fun W=>ty W ts[1];have O:leveled ts[1]=true->ts[1].level<3:=by simp[leveled]
    clear h0 h1 h2;generalize ts[1]=t at *;generalize leveled t=lb at *;cases lb with
    |false=>
     simp only[gx,if_false] at n;go_wp2_with (first|(go_at_call 218;refine(aa.out _).mono ?_;rintro r w2 ⟨rfl,c⟩))
     go_roundw
     case rel=>exact⟨2,x,y,z,by omega,rfl,o.below c,s.below c,q.below c,m.below c,n,P3 b c⟩
     case measure=>simp[intOf]
    |true=>
     simp only[if_true] at n;have ax:=O rfl;clear O;generalize ah:t.level=lv at *;clear ah;go_wp2_with (first|(go_at_call 218;refine(aa.out _).mono ?_;rintro r w2 ⟨rfl,c⟩;have a:=c;have u:=o.below c;obtain⟨Y,T,ac⟩:=u.boxed;have ag:=zm c C I;have A:=m.below c;obtain⟨Z,X,V⟩:=A.boxed;have al:=(xG C c.size);obtain rfl|rfl|rfl:lv=0∨lv=1∨lv=2:=(by omega)))
     ·have J:Hid (uV ⟨B,ts⟩ [f,j,r2] 2=[j,y,z]):=by rw[Hid,n.out];rfl
      have d:=(m.below a).set 0 (.int .i64 j);simp at d;have G:=(o.below a).set_ne (show w.heap.size≠w.heap.size+3 from by omega) 0 (.int .i64 j);have K:=(s.below a).set_ne (show w.heap.size+1≠w.heap.size+3 from by omega) 0 (.int .i64 j);have F:=(q.below a).set_ne (show w.heap.size+2≠w.heap.size+3 from by omega) 0 (.int .i64 j);have H:=(P3 b a).setCell (p:=⟨w.heap.size+3,0,none⟩) (by simp) (.int .i64 j);go_wp2;go_roundw
      case rel=>exact⟨2,j,y,z,by omega,rfl,G,K,F,d,J,H⟩
      case measure=>simp[intOf]
     ·have J:Hid (uV ⟨B,ts⟩ [f,j,r2] 2=[x,j,z]):=by rw[Hid,n.out];rfl
      have d:=(m.below a).set 1 (.int .i64 j);simp at d;have G:=(o.below a).set_ne (show w.heap.size≠w.heap.size+3 from by omega) 1 (.int .i64 j);have K:=(s.below a).set_ne (show w.heap.size+1≠w.heap.size+3 from by omega) 1 (.int .i64 j);have F:=(q.below a).set_ne (show w.heap.size+2≠w.heap.size+3 from by omega) 1 (.int .i64 j);have H:=(P3 b a).setCell (p:=⟨w.heap.size+3,1,none⟩) (by simp) (.int .i64 j);go_wp2;go_roundw
      case rel=>exact⟨2,x,j,z,by omega,rfl,G,K,F,d,J,H⟩
      case measure=>simp[intOf]
     ·have J:Hid (uV ⟨B,ts⟩ [f,j,r2] 2=[x,y,j]):=by rw[Hid,n.out];rfl
      have d:=(m.below a).set 2 (.int .i64 j);simp at d;have G:=(o.below a).set_ne (show w.heap.size≠w.heap.size+3 from by omega) 2 (.int .i64 j);have K:=(s.below a).set_ne (show w.heap.size+1≠w.heap.size+3 from by omega) 2 (.int .i64 j);have F:=(q.below a).set_ne (show w.heap.size+2≠w.heap.size+3 from by omega) 2 (.int .i64 j);have H:=(P3 b a).setCell (p:=⟨w.heap.size+3,2,none⟩) (by simp) (.int .i64 j);go_wp2;go_roundw
      case rel=>exact⟨2,x,y,j,by omega,rfl,G,K,F,d,J,H⟩
      case measure=>simp[intOf]
   ·have n:Hid (uV ⟨B,ts⟩ [f,j,r2] 2=[x,y,z]):=by
     rw[Hid,uV,S.out];simp[qD,D]
    have ak:ts.length<=1:=by omega
    go_wp2;go_roundw
    case rel=>exact⟨2,x,y,z,by omega,rfl,o,s,q,m,n,b⟩
    case measure=>simp[intOf]
  |2,_=>
   by_cases D:2<ts.length
   ·have n:Hid (uV ⟨B,ts⟩ [f,j,r2] 3=if leveled ts[2]=true then [x,y,z].set ts[2].level r2 else [x,y,z]):=by
     rw[Hid,uV,S.out];simp[qD,D,List.getD_eq_getElem?_getD]
    obtain⟨g,R,Q,h0,h1,h2⟩:=h.cell 2 D;subst R;have M:=zm b Q h0;have L:=zm b Q h1;have I:=zm b Q h2;simp only[Nat.reduceMul,Nat.reduceAdd] at M L I;have C:g<wr.heap.size:=by omega
    have aa:Hid (∀W,Calls prog 218 #[.agg #[.bool ts[2].var,.int .i64 (ts[2].num:Nat),.int .i64 (ts[2].level:Nat)]] W fun r E=>r=.returned (.bool (leveled ts[2]))/\Below W.heap.size W E):=fun W=>ty W ts[2];have O:leveled ts[2]=true->ts[2].level<3:=by simp[leveled]
    clear h0 h1 h2;generalize ts[2]=t at *;generalize leveled t=lb at *;cases lb with
    |false=>
     simp only[gx,if_false] at n;go_wp2_with (first|(go_at_call 218;refine(aa.out _).mono ?_;rintro r w2 ⟨rfl,c⟩))
     go_roundw
     case rel=>exact⟨3,x,y,z,by omega,rfl,o.below c,s.below c,q.below c,m.below c,n,P3 b c⟩
     case measure=>simp[intOf]
    |true=>
     simp only[if_true] at n;have ax:=O rfl;clear O;generalize ah:t.level=lv at *;clear ah;go_wp2_with (first|(go_at_call 218;refine(aa.out _).mono ?_;rintro r w2 ⟨rfl,c⟩;have a:=c;have u:=o.below c;obtain⟨Y,T,ac⟩:=u.boxed;have ag:=zm c C I;have A:=m.below c;obtain⟨Z,X,V⟩:=A.boxed;have al:=(xG C c.size);obtain rfl|rfl|rfl:lv=0∨lv=1∨lv=2:=(by omega)))
     ·have J:Hid (uV ⟨B,ts⟩ [f,j,r2] 3=[r2,y,z]):=by rw[Hid,n.out];rfl
      have d:=(m.below a).set 0 (.int .i64 r2);simp at d;have G:=(o.below a).set_ne (show w.heap.size≠w.heap.size+3 from by omega) 0 (.int .i64 r2);have K:=(s.below a).set_ne (show w.heap.size+1≠w.heap.size+3 from by omega) 0 (.int .i64 r2);have F:=(q.below a).set_ne (show w.heap.size+2≠w.heap.size+3 from by omega) 0 (.int .i64 r2);have H:=(P3 b a).setCell (p:=⟨w.heap.size+3,0,none⟩) (by simp) (.int .i64 r2);go_wp2;go_roundw
      case rel=>exact⟨3,r2,y,z,by omega,rfl,G,K,F,d,J,H⟩
      case measure=>simp[intOf]
     ·have J:Hid (uV ⟨B,ts⟩ [f,j,r2] 3=[x,r2,z]):=by rw[Hid,n.out];rfl
      have d:=(m.below a).set 1 (.int .i64 r2);simp at d;have G:=(o.below a).set_ne (show w.heap.size≠w.heap.size+3 from by omega) 1 (.int .i64 r2);have K:=(s.below a).set_ne (show w.heap.size+1≠w.heap.size+3 from by omega) 1 (.int .i64 r2);have F:=(q.below a).set_ne (show w.heap.size+2≠w.heap.size+3 from by omega) 1 (.int .i64 r2);have H:=(P3 b a).setCell (p:=⟨w.heap.size+3,1,none⟩) (by simp) (.int .i64 r2);go_wp2;go_roundw
      case rel=>exact⟨3,x,r2,z,by omega,rfl,G,K,F,d,J,H⟩
      case measure=>simp[intOf]
     ·have J:Hid (uV ⟨B,ts⟩ [f,j,r2] 3=[x,y,r2]):=by rw[Hid,n.out];rfl
      have d:=(m.below a).set 2 (.int .i64 r2);simp at d;have G:=(o.below a).set_ne (show w.heap.size≠w.heap.size+3 from by omega) 2 (.int .i64 r2);have K:=(s.below a).set_ne (show w.heap.size+1≠w.heap.size+3 from by omega) 2 (.int .i64 r2);have F:=(q.below a).set_ne (show w.heap.size+2≠w.heap.size+3 from by omega) 2 (.int .i64 r2);have H:=(P3 b a).setCell (p:=⟨w.heap.size+3,2,none⟩) (by simp) (.int .i64 r2);go_wp2;go_roundw
      case rel=>exact⟨3,x,y,r2,by omega,rfl,G,K,F,d,J,H⟩
      case measure=>simp[intOf]
   ·have n:Hid (uV ⟨B,ts⟩ [f,j,r2] 3=[x,y,z]):=by
     rw[Hid,uV,S.out];simp[qD,D]
    have ak:ts.length<=2:=by omega
    go_wp2;go_roundw
    case rel=>exact⟨3,x,y,z,by omega,rfl,o,s,q,m,n,b⟩
    case measure=>simp[intOf]
  |3,_=>
   have HM:Hid (xy ⟨B,ts⟩ [f,j,r2]=if (xr ⟨B,ts⟩ [f,j,r2] [x,y,z] 0&&xr ⟨B,ts⟩ [f,j,r2] [x,y,z] 1&&xr ⟨B,ts⟩ [f,j,r2] [x,y,z] 2)=true then some [x,y,z] else none):=JX ((Gx _ _).trans S.out);clear S;rw[show((3:Nat):Int)=3 from rfl];go_wp2;have n:Hid (Py wr w.heap.size #[.int .i64 B,.slice ao ts.length ad] 204/\Py wr (w.heap.size+1) #[.int .i64 f,.int .i64 j,.int .i64 r2] 165/\Py wr (w.heap.size+2) #[.int .i64 0,.int .i64 0,.int .i64 0] 165/\Py wr (w.heap.size+3) #[.int .i64 x,.int .i64 y,.int .i64 z] 165/\Below w.heap.size w wr):=⟨o,s,q,m,b⟩;clear au ay av aq ar a0 a2 a3 az am o s q m b;go_loopw [39] (fun a5 wr=>∃k:Nat,k<=3/\a5=.int .i64 k/\Py wr w.heap.size #[.int .i64 B,.slice ao ts.length ad] 204/\Py wr (w.heap.size+1) #[.int .i64 f,.int .i64 j,.int .i64 r2] 165/\Py wr (w.heap.size+2) #[.int .i64 0,.int .i64 0,.int .i64 0] 165/\Py wr (w.heap.size+3) #[.int .i64 x,.int .i64 y,.int .i64 z] 165/\Hid (∀i,i<k->xr ⟨B,ts⟩ [f,j,r2] [x,y,z] i=true)/\Below w.heap.size w wr) (fun i _=>3-(intOf i).toNat)
   case atStart=>
    obtain⟨q1,q2,q3,q4,q5⟩:=n.out;exact⟨0,by omega,rfl,q1,q2,q3,q4,(fun i hi=>by omega),q5⟩
   case round=>
    clear n;obtain⟨k,hk,rfl,o,s,q,m,HA,b⟩:=hrel;obtain⟨au,ay,av⟩:=o.boxed;obtain⟨aq,ar,a0⟩:=s.boxed;obtain⟨a2,a3,az⟩:=m.boxed;obtain⟨a6,a8,a7⟩:=q.boxed;have am:=b.size;match k,hk with
    |0,_=>
     by_cases D:0<ts.length
     ·have N:Hid (xr ⟨B,ts⟩ [f,j,r2] [x,y,z] 0=jy ts[0] f [x,y,z]):=by unfold xr;rw[Hid,decide_eq_false (show ¬ts.length<=0 by omega)];simp[List.getD_eq_getElem?_getD,D]
      obtain⟨g,R,Q,h0,h1,h2⟩:=h.cell 0 D;subst R;have M:=zm b Q h0;have L:=zm b Q h1;have I:=zm b Q h2;simp only[Nat.reduceMul,Nat.reduceAdd] at M L I;have C:g<wr.heap.size:=by omega
      have ap:(0:Int)<(ts.length:Int):=by omega
      have ae:Hid (∀W,Calls prog 219 #[.agg #[.bool ts[0].var,.int .i64 (ts[0].num:Nat),.int .i64 (ts[0].level:Nat)],.int .i64 f,.agg #[.int .i64 x,.int .i64 y,.int .i64 z]] W fun r E=>r=.returned (.bool (jy ts[0] f [x,y,z]))/\Below W.heap.size W E):=fun W=>wU W ts[0] f x y z;clear h0 h1 h2;generalize ts[0]=t at *;generalize jy t f [x,y,z]=ab at *;go_wp2;go_region_held3 (fun E=>E.cell? ⟨w.heap.size,1,none⟩=some (.slice (some ⟨g,0,none⟩) ts.length ad)/\E.cell? ⟨g,0,none⟩=some (.bool t.var)/\E.cell? ⟨g,1,none⟩=some (.int .i64 t.num)/\E.cell? ⟨g,2,none⟩=some (.int .i64 t.level)/\E.cell? ⟨w.heap.size+1+1+1,0,none⟩=some (.int .i64 x)/\E.cell? ⟨w.heap.size+1+1+1,1,none⟩=some (.int .i64 y)/\E.cell? ⟨w.heap.size+1+1+1,2,none⟩=some (.int .i64 z)) (first|go_keep|(go_simp;done)) (first|(go_at_call 219;refine(ae.out _).mono ?_;rintro r w2 ⟨rfl,c⟩;have l:Below wr.heap.size wr w2:=(zP (by go_grown) c (zf _));have u:=o.below l;obtain⟨Y,T,ac⟩:=u.boxed;have A:=m.below l;obtain⟨Z,X,V⟩:=A.boxed;have a1:=zm l C M;have aw:=zm l C L;have ag:=(zm l C I)))
      cases ab with
      |true=>
       have P:Hid (∀i,i<1->xr ⟨B,ts⟩ [f,j,r2] [x,y,z] i=true):=fun i hi=>by
        by_cases e:i=0
        ·subst e;exact N.out
        ·exact HA.out i (by omega)
       go_wp2;go_roundw
       case rel=>exact⟨1,by omega,rfl,u,s.below l,q.below l,A,P,P3 b l⟩
       case measure=>simp[intOf]
      |false=>
       have S:Hid (xy ⟨B,ts⟩ [f,j,r2]=none):=by rw[Hid,HM.out,N.out];simp
       have af:=q.below l;obtain⟨U,aj,an⟩:=af.boxed;go_wp2;exact zK (v:=.tuple #[.agg #[.int .i64 0,.int .i64 0,.int .i64 0],.bool false]) (by simp[results,results213,go_sem,U]) rfl ⟨⟨0,0,0,by rw[S.out];rfl,by rw[S.out];rfl⟩,(((P3 b l).setCell (p:=⟨w.heap.size+2,0,none⟩) (by simp) _).setCell (p:=⟨w.heap.size+2,1,none⟩) (by simp) _).setCell (p:=⟨w.heap.size+2,2,none⟩) (by simp) _⟩
     ·have N:Hid (xr ⟨B,ts⟩ [f,j,r2] [x,y,z] 0=true):=by unfold xr;rw[Hid,decide_eq_true (show ts.length<=0 by omega)];rfl
      have P:Hid (∀i,i<1->xr ⟨B,ts⟩ [f,j,r2] [x,y,z] i=true):=fun i hi=>by
       by_cases e:i=0
       ·subst e;exact N.out
       ·exact HA.out i (by omega)
      have ai:decide ((0:Int)<(ts.length:Int))=false:=decide_eq_false (by omega);go_wp2;go_quiet (fail)
      go_wp2;go_roundw
      case rel=>exact⟨1,by omega,rfl,o.below (zL (zo _ _) _),s.below (zL (zo _ _) _),q.below (zL (zo _ _) _),m.below (zL (zo _ _) _),P,zL b _⟩
      case measure=>simp[intOf]
    |1,_=>
     by_cases D:1<ts.length
     ·have N:Hid (xr ⟨B,ts⟩ [f,j,r2] [x,y,z] 1=jy ts[1] j [x,y,z]):=by unfold xr;rw[Hid,decide_eq_false (show ¬ts.length<=1 by omega)];simp[List.getD_eq_getElem?_getD,D]
      obtain⟨g,R,Q,h0,h1,h2⟩:=h.cell 1 D;subst R;have M:=zm b Q h0;have L:=zm b Q h1;have I:=zm b Q h2;simp only[Nat.reduceMul,Nat.reduceAdd] at M L I;have C:g<wr.heap.size:=by omega
      have ap:(1:Int)<(ts.length:Int):=by omega
      have ae:Hid (∀W,Calls prog 219 #[.agg #[.bool ts[1].var,.int .i64 (ts[1].num:Nat),.int .i64 (ts[1].level:Nat)],.int .i64 j,.agg #[.int .i64 x,.int .i64 y,.int .i64 z]] W fun r E=>r=.returned (.bool (jy ts[1] j [x,y,z]))/\Below W.heap.size W E):=fun W=>wU W ts[1] j x y z;clear h0 h1 h2;generalize ts[1]=t at *;generalize jy t j [x,y,z]=ab at *;go_wp2;go_region_held3 (fun E=>E.cell? ⟨w.heap.size,1,none⟩=some (.slice (some ⟨g,0,none⟩) ts.length ad)/\E.cell? ⟨g,3,none⟩=some (.bool t.var)/\E.cell? ⟨g,4,none⟩=some (.int .i64 t.num)/\E.cell? ⟨g,5,none⟩=some (.int .i64 t.level)/\E.cell? ⟨w.heap.size+1+1+1,0,none⟩=some (.int .i64 x)/\E.cell? ⟨w.heap.size+1+1+1,1,none⟩=some (.int .i64 y)/\E.cell? ⟨w.heap.size+1+1+1,2,none⟩=some (.int .i64 z)) (first|go_keep|(go_simp;done)) (first|(go_at_call 219;refine(ae.out _).mono ?_;rintro r w2 ⟨rfl,c⟩;have l:Below wr.heap.size wr w2:=(zP (by go_grown) c (zf _));have u:=o.below l;obtain⟨Y,T,ac⟩:=u.boxed;have A:=m.below l;obtain⟨Z,X,V⟩:=A.boxed;have a1:=zm l C M;have aw:=zm l C L;have ag:=(zm l C I)))
      cases ab with
      |true=>
       have P:Hid (∀i,i<2->xr ⟨B,ts⟩ [f,j,r2] [x,y,z] i=true):=fun i hi=>by
        by_cases e:i=1
        ·subst e;exact N.out
        ·exact HA.out i (by omega)
       go_wp2;go_roundw
       case rel=>exact⟨2,by omega,rfl,u,s.below l,q.below l,A,P,P3 b l⟩
       case measure=>simp[intOf]
      |false=>
       have S:Hid (xy ⟨B,ts⟩ [f,j,r2]=none):=by rw[Hid,HM.out,N.out];simp
       have af:=q.below l;obtain⟨U,aj,an⟩:=af.boxed;go_wp2;exact zK (v:=.tuple #[.agg #[.int .i64 0,.int .i64 0,.int .i64 0],.bool false]) (by simp[results,results213,go_sem,U]) rfl ⟨⟨0,0,0,by rw[S.out];rfl,by rw[S.out];rfl⟩,(((P3 b l).setCell (p:=⟨w.heap.size+2,0,none⟩) (by simp) _).setCell (p:=⟨w.heap.size+2,1,none⟩) (by simp) _).setCell (p:=⟨w.heap.size+2,2,none⟩) (by simp) _⟩
     ·have N:Hid (xr ⟨B,ts⟩ [f,j,r2] [x,y,z] 1=true):=by unfold xr;rw[Hid,decide_eq_true (show ts.length<=1 by omega)];rfl
      have P:Hid (∀i,i<2->xr ⟨B,ts⟩ [f,j,r2] [x,y,z] i=true):=fun i hi=>by
       by_cases e:i=1
       ·subst e;exact N.out
       ·exact HA.out i (by omega)
      have ai:decide ((1:Int)<(ts.length:Int))=false:=decide_eq_false (by omega);go_wp2;go_quiet (fail)
      go_wp2;go_roundw
      case rel=>exact⟨2,by omega,rfl,o.below (zL (zo _ _) _),s.below (zL (zo _ _) _),q.below (zL (zo _ _) _),m.below (zL (zo _ _) _),P,zL b _⟩
      case measure=>simp[intOf]
    |2,_=>
     by_cases D:2<ts.length
     ·have N:Hid (xr ⟨B,ts⟩ [f,j,r2] [x,y,z] 2=jy ts[2] r2 [x,y,z]):=by unfold xr;rw[Hid,decide_eq_false (show ¬ts.length<=2 by omega)];simp[List.getD_eq_getElem?_getD,D]
      obtain⟨g,R,Q,h0,h1,h2⟩:=h.cell 2 D;subst R;have M:=zm b Q h0;have L:=zm b Q h1;have I:=zm b Q h2;simp only[Nat.reduceMul,Nat.reduceAdd] at M L I;have C:g<wr.heap.size:=by omega
      have ap:(2:Int)<(ts.length:Int):=by omega
      have ae:Hid (∀W,Calls prog 219 #[.agg #[.bool ts[2].var,.int .i64 (ts[2].num:Nat),.int .i64 (ts[2].level:Nat)],.int .i64 r2,.agg #[.int .i64 x,.int .i64 y,.int .i64 z]] W fun r E=>r=.returned (.bool (jy ts[2] r2 [x,y,z]))/\Below W.heap.size W E):=fun W=>wU W ts[2] r2 x y z;clear h0 h1 h2;generalize ts[2]=t at *;generalize jy t r2 [x,y,z]=ab at *;go_wp2;go_region_held3 (fun E=>E.cell? ⟨w.heap.size,1,none⟩=some (.slice (some ⟨g,0,none⟩) ts.length ad)/\E.cell? ⟨g,6,none⟩=some (.bool t.var)/\E.cell? ⟨g,7,none⟩=some (.int .i64 t.num)/\E.cell? ⟨g,8,none⟩=some (.int .i64 t.level)/\E.cell? ⟨w.heap.size+1+1+1,0,none⟩=some (.int .i64 x)/\E.cell? ⟨w.heap.size+1+1+1,1,none⟩=some (.int .i64 y)/\E.cell? ⟨w.heap.size+1+1+1,2,none⟩=some (.int .i64 z)) (first|go_keep|(go_simp;done)) (first|(go_at_call 219;refine(ae.out _).mono ?_;rintro r w2 ⟨rfl,c⟩;have l:Below wr.heap.size wr w2:=(zP (by go_grown) c (zf _));have u:=o.below l;obtain⟨Y,T,ac⟩:=u.boxed;have A:=m.below l;obtain⟨Z,X,V⟩:=A.boxed;have a1:=zm l C M;have aw:=zm l C L;have ag:=(zm l C I)))
      cases ab with
      |true=>
       have P:Hid (∀i,i<3->xr ⟨B,ts⟩ [f,j,r2] [x,y,z] i=true):=fun i hi=>by
        by_cases e:i=2
        ·subst e;exact N.out
        ·exact HA.out i (by omega)
       go_wp2;go_roundw
       case rel=>exact⟨3,by omega,rfl,u,s.below l,q.below l,A,P,P3 b l⟩
       case measure=>simp[intOf]
      |false=>
       have S:Hid (xy ⟨B,ts⟩ [f,j,r2]=none):=by rw[Hid,HM.out,N.out];simp
       have af:=q.below l;obtain⟨U,aj,an⟩:=af.boxed;go_wp2;exact zK (v:=.tuple #[.agg #[.int .i64 0,.int .i64 0,.int .i64 0],.bool false]) (by simp[results,results213,go_sem,U]) rfl ⟨⟨0,0,0,by rw[S.out];rfl,by rw[S.out];rfl⟩,(((P3 b l).setCell (p:=⟨w.heap.size+2,0,none⟩) (by simp) _).setCell (p:=⟨w.heap.size+2,1,none⟩) (by simp) _).setCell (p:=⟨w.heap.size+2,2,none⟩) (by simp) _⟩
     ·have N:Hid (xr ⟨B,ts⟩ [f,j,r2] [x,y,z] 2=true):=by unfold xr;rw[Hid,decide_eq_true (show ts.length<=2 by omega)];rfl
      have P:Hid (∀i,i<3->xr ⟨B,ts⟩ [f,j,r2] [x,y,z] i=true):=fun i hi=>by
       by_cases e:i=2
       ·subst e;exact N.out
       ·exact HA.out i (by omega)
      have ai:decide ((2:Int)<(ts.length:Int))=false:=decide_eq_false (by omega);go_wp2;go_quiet (fail)
      go_wp2;go_roundw
      case rel=>exact⟨3,by omega,rfl,o.below (zL (zo _ _) _),s.below (zL (zo _ _) _),q.below (zL (zo _ _) _),m.below (zL (zo _ _) _),P,zL b _⟩
      case measure=>simp[intOf]
    |3,_=>
     have S:Hid (xy ⟨B,ts⟩ [f,j,r2]=some [x,y,z]):=by rw[Hid,HM.out,HA.out 0 (by omega),HA.out 1 (by omega),HA.out 2 (by omega)];rfl
     go_wp2;exact zK (v:=.tuple #[.agg #[.int .i64 x,.int .i64 y,.int .i64 z],.bool true]) (by simp[results,results213,go_sem,a6]) rfl ⟨⟨x,y,z,by rw[S.out];rfl,by rw[S.out];rfl⟩,((b.setCell (p:=⟨w.heap.size+2,0,none⟩) (by simp) _).setCell (p:=⟨w.heap.size+2,1,none⟩) (by simp) _).setCell (p:=⟨w.heap.size+2,2,none⟩) (by simp) _⟩
def g7(ps:List (Nat×Value)):List Value:=ps.flatMap fun x=>[.int .i64 (x.1:Nat),x.2]
theorem BO:∀(ps:List (Nat×Value)) (k:Nat) (a:k<ps.length),(g7 ps)[k*2]?=some (.int .i64 (ps[k].1:Nat))/\(g7 ps)[k*2+1]?=some ps[k].2
 |[],k,a=>by simp at a
 |p::r,0,_=>by simp[g7]
 |p::r,k+1,a=>by
  have:=BO r k (by simpa using a);simp only[g7,uo] at this ⊢;rw[show(k+1)*2=k*2+1+1 from by omega,show k*2+1+1+1=k*2+1+1+1 from rfl];simpa using this
def xY(lo:Nat)(w:World)(v:Value)(a:List zt):Prop:=∃b:List (Nat×Value),w.ownsRow lo 204 2 v a.length (g7 b)/\b.length=a.length/\a.length<=1000/\∀k (d:k<a.length) (c:k<b.length),b[k].1=a[k].pred/\yh lo w b[k].2 a[k].qg/\a[k].pred<=1000000
theorem xY.below{w e:World}{v:Value}{f:List zt}(h:xY lo w v f)(d:Below w.heap.size w e):xY lo e v f:=by
 obtain⟨j,i,g,l,c⟩:=h;exact⟨j,zC i d,g,l,fun k a b=>⟨(c k a b).1,(c k a b).2.1.below d,(c k a b).2.2⟩⟩
theorem xY.qx{w:World}{v:Value}{b:List zt}(h:xY lo w v b):∃d a,v=.slice d b.length a:=by obtain⟨e,c,_⟩:=h;exact zs c
theorem xY.len{w:World}{v:Value}{a:List zt}(h:xY lo w v a):a.length<=1000:=by obtain⟨c,_,_,b,_⟩:=h;exact b
theorem xY.cell{w:World}{i:Option Addr}{n cap:Nat}{c:List zt}(h:xY lo w (.slice i n cap) c)(k:Nat)(s:k<c.length):∃g b a,i=some ⟨g,0,none⟩/\g<w.heap.size/\w.cell? ⟨g,k*2,none⟩=some (.int .i64 (c[k].pred:Nat))/\w.cell? ⟨g,k*2+1,none⟩=some (.slice b c[k].qg.length a)/\yh lo w (.slice b c[k].qg.length a) c[k].qg:=by
 obtain⟨o,v,z,y,r⟩:=h;obtain⟨g,f,e,_,u,l⟩:=yC v (by omega);simp only[Value.slice.injEq] at e;obtain⟨rfl,_,_⟩:=e;obtain⟨t,q⟩:=BO o k (by omega);obtain⟨x,d,_⟩:=r k s (by omega);obtain⟨b,a,p⟩:=d.qx;have m:=l _ _ t;have j:=l _ _ q;rw[x] at m;rw[p] at j d;exact⟨g,b,a,rfl,u,m,j,d⟩
structure uU (lo:Nat) (w:World) (tv pv nv:Value) (r:zq):Prop where
 head:yh lo w tv r.head.qg
 qc:xY lo w pv r.qc
 qp:xY lo w nv r.qp
 small:r.qh<=1000000/\r.vars<=1000000/\r.head.pred<=1000000
theorem uU.below{w c:World}{tv b d:Value}{r:zq}(h:uU lo w tv b d r)(a:Below w.heap.size w c):uU lo c tv b d r:=⟨h.head.below a,h.qc.below a,h.qp.below a,h.small⟩
def kz(r:zq)(tv b a:Value):Value:=.agg #[.int .i64 r.qh,.int .i64 r.vars,.int .i64 r.head.pred,tv,b,a]
theorem Lb(w:World)(tv pv nv:Value)(r:zq)(a:Int)(h:uU lo w tv pv nv r):
  Calls prog 220 #[kz r tv pv nv,.int .i64 a] w fun e v=>e=.returned (.int .i64 (xt r a))/\Below w.heap.size w v:=by
 obtain⟨H,u,rfl⟩:=h.head.qx;obtain⟨ac,F,rfl⟩:=h.qc.qx;obtain⟨ab,N,rfl⟩:=h.qp.qx;have ao:=h.qc.len;have an:=h.qp.len;have af:Hid (∀W,Below w.heap.size w W->Calls prog 225 #[.agg #[.int .i64 r.head.pred,.slice H r.head.qg.length u],.int .i64 a] W fun e v=>e=.returned (.int .i64 (jP r.head a))/\Below W.heap.size W v):=fun W M=>CL W _ r.head.pred a r.head.qg (h.head.below M);have hP:=h.qc;have hN:=h.qp;have HE:Hid (xt r a=r.qp.foldl (vz a) (r.qc.foldl (vz a) (jP r.head a))):=rfl;unfold kz;clear h;have J:=Py.new w #[.int .i64 r.qh,.int .i64 r.vars,.int .i64 r.head.pred,.slice H r.head.qg.length u,.slice ac r.qc.length F,.slice ab r.qp.length N] 207;generalize jP r.head a=R at *;generalize r.qc=b at *;generalize r.qp=c at *;go_enter func220,ntmps220;go_wp2_with (first|(go_at_call 225;refine(af.out _ (by exact(by go_grown))).mono ?_;rintro e w1 ⟨rfl,x⟩;have aj:Below w.heap.size w w1:=zP (by go_grown) x (zf _);have t:=J.below x;obtain⟨ah,S,aa⟩:=t.boxed))
 clear ah S aa J x;go_loopw [5,19] (fun Y U wr=>∃k:Nat,k<=b.length/\U=.int .i64 k/\Y=.int .i64 ((b.take k).foldl (vz a) R)/\Below w1.heap.size w1 wr) (fun _ i _=>b.length-(intOf i).toNat)
 case atStart=>exact⟨0,zx _,rfl,rfl,zo _ _⟩
 case round=>
  obtain⟨k,hk,rfl,rfl,o⟩:=hrel;have q:=P3 aj o;have am:=q.size;by_cases L:k<b.length
  ·obtain⟨g,B,n,z,O,K,P,I⟩:=hP.cell k L;subst z;have ae:=zm q O K;have ad:=zm q O P;have T:g<wr.heap.size:=by omega
   have Q:=Px (rt b (vz a) R k L);have j:Hid (∀W,Below w.heap.size w W->Calls prog 226 #[.agg #[.int .i64 (b[k].pred:Nat),.slice B b[k].qg.length n],.int .i64 a] W fun e v=>e=.returned (.int .i64 (vY b[k] a))/\Below W.heap.size W v):=fun W M=>oU W _ b[k].pred a b[k].qg (I.below M);clear K P I;generalize b[k]=l at *;generalize (b.take k).foldl (vz a) R=p at *;have f:Hid (vz a p l=if vY l a>p then vY l a else p):=rfl;generalize vY l a=ti at *;by_cases m:ti>p
   ·rw[zb m] at f;go_wp2_with (first|(go_at_call 226;refine(j.out _ (by exact(by go_grown))).mono ?_;rintro e E ⟨rfl,y⟩;have C:Below wr.heap.size wr E:=(zP (by go_grown) y (zf _))))
    go_roundw
    case rel=>exact⟨k+1,by omega,by go_num,by rw[Q.out,f.out],P3 o C⟩
    case measure=>simp[intOf];omega
   ·rw[za m] at f;go_wp2_with (first|(go_at_call 226;refine(j.out _ (by exact(by go_grown))).mono ?_;rintro e E ⟨rfl,y⟩;have C:Below wr.heap.size wr E:=(zP (by go_grown) y (zf _))))
    go_roundw
    case rel=>exact⟨k+1,by omega,by go_num,by rw[Q.out,f.out],P3 o C⟩
    case measure=>simp[intOf];omega
  ·obtain rfl:k=b.length:=by omega
   rw[vf];generalize b.foldl (vz a) R=Z at *;have G:=t.below o;obtain⟨ag,al,ak⟩:=G.boxed;go_wp2;clear ag al ak;obtain⟨E,ai⟩:∃E,E=wr:=⟨wr,rfl⟩;subst ai;go_loopw [5,34] (fun Y X wr=>∃k:Nat,k<=c.length/\X=.int .i64 k/\Y=.int .i64 ((c.take k).foldl (vz a) Z)/\Below w.heap.size w wr) (fun _ i _=>c.length-(intOf i).toNat)
   case atStart=>exact⟨0,zx _,rfl,rfl,q⟩
   case round=>
    obtain⟨k,hk,rfl,rfl,d⟩:=hrel;have V:=d.size;by_cases s:k<c.length
    ·obtain⟨g,B,n,z,O,K,P,I⟩:=hN.cell k s;subst z;have ae:=zm d O K;have ad:=zm d O P;have T:g<wr.heap.size:=by omega
     have Q:=Px (rt c (vz a) Z k s);have j:Hid (∀W,Below w.heap.size w W->Calls prog 226 #[.agg #[.int .i64 (c[k].pred:Nat),.slice B c[k].qg.length n],.int .i64 a] W fun e v=>e=.returned (.int .i64 (vY c[k] a))/\Below W.heap.size W v):=fun W M=>oU W _ c[k].pred a c[k].qg (I.below M);clear K P I;generalize c[k]=l at *;generalize (c.take k).foldl (vz a) Z=p at *;have f:Hid (vz a p l=if vY l a>p then vY l a else p):=rfl;generalize vY l a=ti at *;by_cases m:ti>p
     ·rw[zb m] at f;go_wp2_with (first|(go_at_call 226;refine(j.out _ (by exact(by go_grown))).mono ?_;rintro e w3 ⟨rfl,A⟩;have D:Below wr.heap.size wr w3:=(zP (by go_grown) A (zf _))))
      go_roundw
      case rel=>exact⟨k+1,by omega,by go_num,by rw[Q.out,f.out],P3 d D⟩
      case measure=>simp[intOf];omega
     ·rw[za m] at f;go_wp2_with (first|(go_at_call 226;refine(j.out _ (by exact(by go_grown))).mono ?_;rintro e w3 ⟨rfl,A⟩;have D:Below wr.heap.size wr w3:=(zP (by go_grown) A (zf _))))
      go_roundw
      case rel=>exact⟨k+1,by omega,by go_num,by rw[Q.out,f.out],P3 d D⟩
      case measure=>simp[intOf];omega
    ·obtain rfl:k=c.length:=by omega
     rw[vf];go_wp2;go_ret;exact⟨by rw[HE.out];rfl,d⟩
end
end Go.Proofs.YteampbddflhngaaGreat
