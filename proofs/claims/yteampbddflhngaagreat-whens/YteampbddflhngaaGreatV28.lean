import Derived.Test.YteampbddflhngaaGreatV12
import Derived.Test.YteampbddflhngaaGreatV25
namespace Go.Proofs.YteampbddflhngaaGreat
set_option linter.all false
set_option maxRecDepth 100000
set_option maxHeartbeats 4000000
open Go.Proofs.Tryz Go.RowKit
section
variable {lo:Nat}
theorem PE.but{e:TypeId}{r:Nat}{w j:World}{v:Value}{l:List zc}(h:PE lo e w v l)(b:Pm r w j){c:Array Value}{T:TypeId}{f:Nat×Nat}(g:w.heap[r]?=some (.cells c T f))(i:T≠9)(d:T≠90)(a:T≠e):PE lo e j v l:=by
 obtain⟨m,h,n⟩:=h;exact⟨m,xQ h b g a,n.mono (fun _ _ k=>k.but b g i) (fun _ _ k=>k.but b g i d)⟩
structure Q7 (w:World) (pb:Nat) (cv pv:Value) (cs:List zc) (ps:List ByteArray) (sv:List Nat) (wr:World):Prop where
 but:Pm pb w wr
 box:OZ wr pb #[cv,pv,.slice (some ⟨w.heap.size,0,none⟩) ps.length ps.length] 45
 row:wr.ownsRow w.heap.size 3 1 (.slice (some ⟨w.heap.size,0,none⟩) ps.length ps.length) ps.length (sv.map PF)
 len:sv.length=ps.length
 low:QO cs ps sv
 top:∀s∈sv,s<ps.length
theorem Q7.cell{w:World}{pb:Nat}{c b:Value}{cs:List zc}{ps:List ByteArray}{sv:List Nat}{wr:World}(h:Q7 w pb c b cs ps sv wr)(k:Nat)(i:k<sv.length):w.heap.size<wr.heap.size/\wr.cell? ⟨w.heap.size,k,none⟩=some (.int .i64 (sv[k]:Int)):=by
 obtain⟨g,e,a,_,d,f⟩:=y7 h.row (by have:=h.len;omega);simp at a;obtain⟨rfl,_⟩:=a;exact⟨d,f k _ (by simp[i,PF])⟩
theorem Q7.set{w:World}{pb:Nat}{d c:Value}{cs:List zc}{ps:List ByteArray}{sv:List Nat}{wr:World}(h:Q7 w pb d c cs ps sv wr)(e:pb<w.heap.size)(k:Nat)(f:k<sv.length)(s:Nat)(g:s<ps.length)(a:QO cs ps (sv.set k s)):
  Q7 w pb d c cs ps (sv.set k s) (wr.setCell ⟨w.heap.size,k,none⟩ (.int .i64 (s:Int))):=by
 refine⟨h.but.setNew (zh _) _,h.box.set_ne (by omega) _ _,?_,by simpa using h.len,a,?_⟩
 ·have:=uK h.row k (by simpa using f) (PF s);rw[fu];exact this
 ·intro x b;rcases nZ b with b|b
  ·exact h.top x b
  ·omega
def Ng(w:World)(pb:Nat)(c d:Value)(cs:List zc)(ps:List ByteArray)(e:Ending)(b:World):Prop:=Pm pb w b/\((e=.returned (.bool false)/\¬∃f,PW cs f)∨∃a,e=.returned (.bool true)/\Q7 w pb c d cs ps a b/\PH cs (vm ps a))
theorem Io{sv:List Nat}{k s:Nat}(a:k<sv.length)(b:sv[k]<s):sv.sum<(sv.set k s).sum:=by have:=Cl sv k s a;omega
theorem L2{ps:List ByteArray}{sv:List Nat}(a:sv.length=ps.length)(h:∀s∈sv,s<ps.length):sv.sum<=ps.length*ps.length:=by rw[←a] at h ⊢;exact D2 sv sv.length fun s b=>by have:=h s b;omega
theorem PE.ne{e T:TypeId}{w:World}{g n cap pb:Nat}{cs:List zc}{c:Array Value}(h:PE lo e w (.slice (some ⟨g,0,none⟩) n cap) cs)(a:OZ w pb c T)(j:T≠e):g≠pb:=by
 obtain⟨k,⟨_,⟨b,_⟩|⟨l,d,f,b,_,i,_⟩⟩,_⟩:=h
 ·cases b
 ·simp at b;obtain⟨rfl,_⟩:=b;rintro rfl;unfold OZ at a;rw[i] at a;simp at a;exact j a.2.symm
theorem dT.but{w j:World}{g o:Nat}{c:zc}{k:Option Addr}{cap:Nat}{b:Option Addr}{a r:Nat}(h:dT w g o c k cap b a)(d:Pm r w j)(f:g≠r){n:Array Value}{T:TypeId}(m:OZ w r n T)(l:T≠9)(i:T≠90):dT j g o c k cap b a:=
 have e:∀o,j.cell? ⟨g,o,none⟩=w.cell? ⟨g,o,none⟩:=fun _=>World.cell?_of_block (w:=w) (d.block g h.lt f)
 ⟨xo h.lt d.size,(e _).trans h.c0,(e _).trans h.c1,(e _).trans h.c2,(e _).trans h.c3,h.args.but d m l,h.body.but d m l i⟩
theorem Ax(w:World)(pb:Nat)(cv pv v2:Value)(cs:List zc)(ps:List ByteArray)(hp:OZ w pb #[cv,pv,v2] 45)(aj:PE lo 93 w cv cs){a8:Nat}(al:Pg a8 w pv ps)(ay:∀c∈cs,vD c/\c.body.length<=999)(hl:cs.length<=1000)(z:ps.length<=1000)(a4:∀c∈cs,∀l∈zm c,l.pred∈ps):
  Calls prog 70 #[.pointer (some ⟨pb,0,none⟩)] w fun e w'=>Ng w pb cv pv cs ps e w':=by
 obtain⟨ao,L,rfl⟩:=aj.qw;obtain⟨M,q,rfl⟩:=al.qw;obtain⟨av,ax,ai⟩:=hp.boxed;have a7:=OY ay;have a0:=OY a4;have HP:=OY hp;have aC:=run_make_row' (P:=prog) 24 3 (.int .i64 0) 8 underlying24 ON rfl .i64 .i64 ps.length (by omega) (by omega);clear ay a4;go_enter func70,ntmps70;go_wp2;clear aC;go_loopg [4] (2*(ps.length*ps.length)+1) (fun N v3 wr=>∃(D:List Nat) (more:Bool),v3=.bool more/\Q7 w pb (.slice ao cs.length L) (.slice M ps.length q) cs ps D wr/\Hid (more=false->Qd cs ps D cs.length)/\2*(ps.length*ps.length-D.sum)+more.toNat<=N)
 case atStart=>
  have aB:(w.setCell ⟨pb,2,none⟩ (.slice (some ⟨w.heap.size,0,none⟩) ps.length ps.length)).heap.size=w.heap.size:=by simp[World.setCell]
  have a1:=Dw (w.setCell ⟨pb,2,none⟩ (.slice (some ⟨w.heap.size,0,none⟩) ps.length ps.length)) ps.length 3 (by unfold maxLen;omega);rw[aB] at a1;refine⟨List.replicate ps.length 0,true,rfl,⟨(by repeat'(first|with_reducible(first|apply xR|assumption|apply xN|apply xA|apply xD|apply xS|apply xT)|go_size)),?_,a1,by simp,Kh _ _ _,?_⟩,(by intro h;cases h),(by simp)⟩
  ·exact(hp.set 2 _).below zO
  ·intro s hs;rw[List.mem_replicate] at hs;omega
 case round=>
  clear av ax;obtain⟨D,more,rfl,v,HC,hN⟩:=hrel;cases more with
  |false=>
   have C:=OY (HC.out rfl);clear HC;go_wp2;go_ret;exact⟨v.but,ze ⟨D,rfl,v,I8 v.low C.out⟩⟩
  |true=>
   go_wp2;go_loopw [4,5] (fun v3 v4 wi=>∃(k:Nat) (si:List Nat) (X:Bool),k<=cs.length/\v4=.int .i64 k/\v3=.bool X/\Q7 w pb (.slice ao cs.length L) (.slice M ps.length q) cs ps si wi/\D.sum<=si.sum/\(X=true->D.sum<si.sum)/\Hid (X=false->Qd cs ps si k)) (fun _ i _=>cs.length-(intOf i).toNat)
   case atStart=>exact⟨0,D,false,zv _,rfl,rfl,v,zh _,(by simp),fun _=>IF _ _ _⟩
   case round=>
    obtain⟨k,si,X,hk,rfl,rfl,r,a5,W,az⟩:=hrel;have H:=r.box;obtain⟨au,ar,a2⟩:=H.boxed;by_cases K:k<cs.length
    ·obtain⟨g,aR,aH,aT,aN,rfl,I⟩:=aj.at k K;have ab:=aj.ne hp (by decide);have u:=I.but r.but ab hp (by decide) (by decide);have Y:=al.but r.but HP.out (by decide);obtain⟨ba,bb⟩:=a7.out _ (zu K);have J:=a0.out _ (zu K);have V:=zu K;have ad:=OY fun s' (h1:Qd cs ps s' k) (h2:mj cs[k] ps s' cs[k].body.length)=>Fl h1 K h2;generalize cs[k]=c at *;have an:=OY J;have aa:=OY V;have aA:=OY I;obtain⟨E,R⟩:=tP (J c.head (by simp[zm]));have aM:=(fo R).1;have ap:=OY R;have a6:Hid (dO ps c.head.pred=(E:Int)):=by unfold Hid dO;rw[R]
     have aF:=u.c1;have aq:=u.c3;have Z:=u.lt;clear R J V I;go_wp2_with (first|(go_at_call 111;refine(mv _ pb _ _ _ ps c.head.pred H Y z).mono ?_;rw[a6.out];rintro e w' ⟨rfl,b⟩;obtain rfl:=b.symm))
     go_loopw [4,8] (fun v3 v7 wj=>∃(j:Nat) (d:List Nat) (U:Bool),j<=c.body.length/\v7=.int .i64 j/\v3=.bool U/\Q7 w pb (.slice (some ⟨g,0,none⟩) cs.length L) (.slice M ps.length q) cs ps d wj/\D.sum<=d.sum/\(U=true->D.sum<d.sum)/\Hid (U=false->Qd cs ps d k/\mj c ps d j)) (fun _ i _=>c.body.length-(intOf i).toNat)
     case atStart=>exact⟨0,si,X,zv _,rfl,rfl,r,a5,W,fun h=>⟨az.out h,Fs _ _ _⟩⟩
     case round=>
      clear au ar aF aq u Y H a2 Z;obtain⟨j,d,U,hj,rfl,rfl,a,F,O,x⟩:=hrel;have n:=a.box;obtain⟨au,ar,aK⟩:=n.boxed;have A:=aA.out.but a.but ab HP.out (by decide) (by decide);have o:=al.but a.but HP.out (by decide);have aq:=A.c3;have Z:=A.lt;by_cases ah:j<c.body.length
      ·obtain⟨gl,aP,aI,aG,aQ,a3,bc,_,_⟩:=A.body.cell j ah;subst aG;have ag:=zu ah;obtain⟨kb,S⟩:=tP (an.out c.body[j] (by simp[zm]));have aL:=(fo S).1;have aJ:=a.len;have B:kb<d.length:=by omega
       have m:E<d.length:=by omega
       have T:=th S B;have aw:=th ap.out m;have p:Hid (dO ps c.body[j].pred=(kb:Int)):=by unfold Hid dO;rw[S]
       have t:Hid (QO cs ps (d.set E (d[kb]+up c.body[j]))):=by have:=F3 a.low aa.out ag ap.out m;rw[T] at this;exact this
       have ae:=OY fun h=>FL a.low a0.out aa.out ag (by rw[T];exact h);have am:=OY fun h1 h2=>K1 h2 ah (by rw[T,aw];exact h1);have ac:=OY fun s h1 h2=>a.set ai E m s h1 h2;have G:=OY fun s (h:d[E]<s)=>Io m h;obtain⟨aS,aU⟩:=a.cell kb B;obtain⟨_,aY⟩:=a.cell E m;have aV:=qt a.row;have aO:=a.top _ (zu B);have aZ:=a.top _ (zu m);clear T aw S ag;generalize d[kb]=Q at *;generalize d[E]=sh at *;generalize c.body[j]=l at *;cases f:l.neg with
       |false=>
        have y:up l=0:=by simp[up,f]
        rw[f] at a3;clear f;by_cases af:sh<Q
        ·by_cases a9:ps.length<=Q
         ·omega
         ·have ak:Hid (Q7 w pb (.slice (some ⟨g,0,none⟩) cs.length L) (.slice M ps.length q) cs ps (d.set E (Q)) (wr.setCell ⟨w.heap.size,E,none⟩ (.int .i64 ((Q:Nat):Int)))):=ac.out _ (by omega) (by have:=t.out;rw[y] at this;exact this);have aD:=G.out (Q) af;go_wp2_with (first|(go_at_call 111;refine(mv _ pb _ _ _ ps l.pred n o z).mono ?_;rw[p.out];rintro e w' ⟨rfl,b⟩;obtain rfl:=b.symm))
          go_roundw
          case rel=>exact⟨j+1,_,true,by omega,by go_num,rfl,ak.out,by omega,(fun _=>by omega),(fun h=>by cases h)⟩
          case measure=>simp[intOf];omega
        ·have C:Hid (U=false->Qd cs ps d k/\mj c ps d (j+1)):=fun h=>⟨(x.out h).1,am.out (by rw[y];omega) (x.out h).2⟩;go_wp2_with (first|(go_at_call 111;refine(mv _ pb _ _ _ ps l.pred n o z).mono ?_;rw[p.out];rintro e w' ⟨rfl,b⟩;obtain rfl:=b.symm))
         go_roundw
         case rel=>exact⟨j+1,d,U,by omega,by go_num,rfl,a,F,O,C⟩
         case measure=>simp[intOf];omega
       |true=>
        have y:up l=1:=by simp[up,f]
        rw[f] at a3;clear f;by_cases af:sh<Q+1
        ·by_cases a9:ps.length<=Q+1
         ·have HF:=OY (ae.out (by rw[y];omega));go_wp2_with (first|(go_at_call 111;refine(mv _ pb _ _ _ ps l.pred n o z).mono ?_;rw[p.out];rintro e w' ⟨rfl,b⟩;obtain rfl:=b.symm))
          go_ret;exact⟨a.but.setNew (zh _) _,zf ⟨rfl,HF.out⟩⟩
         ·have ak:Hid (Q7 w pb (.slice (some ⟨g,0,none⟩) cs.length L) (.slice M ps.length q) cs ps (d.set E (Q+1)) (wr.setCell ⟨w.heap.size,E,none⟩ (.int .i64 ((Q+1:Nat):Int)))):=ac.out _ (by omega) (by have:=t.out;rw[y] at this;exact this);have aD:=G.out (Q+1) af;go_wp2_with (first|(go_at_call 111;refine(mv _ pb _ _ _ ps l.pred n o z).mono ?_;rw[p.out];rintro e w' ⟨rfl,b⟩;obtain rfl:=b.symm))
          go_roundw
          case rel=>exact⟨j+1,_,true,by omega,by go_num,rfl,ak.out,by omega,(fun _=>by omega),(fun h=>by cases h)⟩
          case measure=>simp[intOf];omega
        ·have C:Hid (U=false->Qd cs ps d k/\mj c ps d (j+1)):=fun h=>⟨(x.out h).1,am.out (by rw[y];omega) (x.out h).2⟩;go_wp2_with (first|(go_at_call 111;refine(mv _ pb _ _ _ ps l.pred n o z).mono ?_;rw[p.out];rintro e w' ⟨rfl,b⟩;obtain rfl:=b.symm))
         go_roundw
         case rel=>exact⟨j+1,d,U,by omega,by go_num,rfl,a,F,O,C⟩
         case measure=>simp[intOf];omega
      ·have HE:=OY fun h=>ad.out d (x.out h).1 (by have h2:=(x.out h).2;rw[show c.body.length=j from by omega];exact h2);go_wp2;go_roundw
       case rel=>exact⟨k+1,d,U,by omega,by go_num,rfl,a,F,O,HE⟩
       case measure=>simp[intOf];omega
    ·have aE:k=cs.length:=by omega
     have aX:=L2 r.len r.top;go_wp2;go_roundg (2*(ps.length*ps.length-si.sum)+X.toNat)
     case measure=>
      have aW:2*(ps.length*ps.length-D.sum)+1<=gk:=hN;clear hN;generalize ps.length*ps.length=nn at *;cases X with
      |false=>simp only[Bool.toNat_false];omega
      |true=>have:=W rfl;simp only[Bool.toNat_true];omega
     case rel=>exact⟨si,X,rfl,r,(by rw[←aE];exact az.out),zh _⟩
end
end Go.Proofs.YteampbddflhngaaGreat
