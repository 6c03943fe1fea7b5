import Derived.Test.YteampbddflhngaaGreatZ13
import Derived.Test.YteampbddflhngaaGreatZ14
namespace Go.Proofs.YteampbddflhngaaGreat
set_option linter.all false
set_option maxRecDepth 100000
set_option maxHeartbeats 4000000
open Go.Proofs.Tryz Go.RowKit
section
variable {lo:Nat}
def gF(lo:Nat)(w:World)(h:Nat)(vs:κ)(g:List Nat):Prop:=∃a e f c b d,g=[e,f,c,b,d]/\Q8 w h #[a,ι (e:Nat),ι (f:Nat),ι (c:Nat),ι (b:Nat),ι (d:Nat)] 257/\QF lo w a vs
theorem gF.below{w w':World}{c:Nat}{vs:κ}{a:List Nat}(h:gF lo w c vs a)(b:μ w w'):gF lo w' c vs a:=by
 obtain⟨d,j,m,g,e,i,f,k,l⟩:=h;exact⟨d,j,m,g,e,i,f,k.below b,l.below b⟩
def uF(vs:κ)(a:List Nat)(n:ByteArray):Nat:=match yu vs n with
 |none=>0
 |some k=>if k≥5 then 0 else a.getD k 0
theorem FQ(w:World)(o:Nat)(vs:κ)(t:List Nat)(n:ByteArray)(h:gF lo w o vs t)(y:vs.length<=1000):
  Calls prog 201 #[(π o),.string n] w fun e m=>e=ε (ι (uF vs t n:Nat))/\m=w:=by
 obtain⟨u,j,c,d,b,i,rfl,q,v⟩:=h;obtain⟨r,A⟩:=q.rules;have l:=Q7 (GV w o u vs n (by rw[r];rfl) v y);have f:Hid (uF vs [j,c,d,b,i] n=match yu vs n with|none=>0|some k=>if k≥5 then 0 else [j,c,d,b,i].getD k 0):=rfl;cases s:yu vs n with
 |none=>
  rw[s] at l f;go_enter func201,ntmps201;go_wp2_with (go_at_call 200;refine l.out.mono ?_;rintro e m ⟨rfl,a⟩;obtain rfl:=a.symm)
  go_ret;exact⟨by rw[f.out];rfl,rfl⟩
 |some k=>
  rw[s] at l f;simp only[ux,kc] at l f;by_cases B:k<5
  ·have p:(k:Int)<5:=by omega
   have g:Hid (uF vs [j,c,d,b,i] n=[j,c,d,b,i].getD k 0):=by rw[Hid,f.out,za (by omega)]
   have z:w.cell? ⟨o,1+k,none⟩=some (ι (([j,c,d,b,i].getD k 0:Nat):Int)):=by
    rw[r];obtain rfl|rfl|rfl|rfl|rfl:k=0∨k=1∨k=2∨k=3∨k=4:=by omega
    all_goals rfl
   generalize [j,c,d,b,i].getD k 0=x at *;clear r f;go_enter func201,ntmps201;go_wp2_with (go_at_call 200;refine l.out.mono ?_;rintro e m ⟨rfl,a⟩;obtain rfl:=a.symm)
   go_ret;exact⟨by rw[g.out];rfl,rfl⟩
  ·have p:¬(k:Int)<5:=by omega
   have g:Hid (uF vs [j,c,d,b,i] n=0):=by rw[Hid,f.out,zc (by omega)]
   go_enter func201,ntmps201;go_wp2_with (go_at_call 200;refine l.out.mono ?_;rintro e m ⟨rfl,a⟩;obtain rfl:=a.symm)
   go_ret;exact⟨by rw[g.out];rfl,rfl⟩
def mY(lo:Nat)(w:World)(b tb o a:Nat)(t:List zh)(ns:κ):Prop:=Q8 w b #[.pointer (some ⟨tb,o,none⟩),(π a)] 200/\TG lo w tb o t/\lD lo w a ns/\t.length<=1000/\ns.length<=1000
theorem mY.below{w w':World}{c tb o b:Nat}{t:List zh}{ns:κ}(h:mY lo w c tb o b t ns)(a:μ w w'):mY lo w' c tb o b t ns:=⟨h.1.below a,h.2.1.below a,h.2.2.1.below a,h.2.2.2⟩
def uT(ns vs:κ)(a:List Nat)(t:ByteArray):zZ:=if zP t then⟨true,uF vs a t,0⟩ else⟨false,(ur ns t).getD 0,0⟩
theorem N4{j:Nat}(w:World)(D tb o C A:Nat)(t:List zh)(ns vs:κ)(c:List Nat)(x:ByteArray)(h:mY lo w D tb o C t ns)(hs:gF j w A vs c)(F:vs.length<=1000):
  Calls prog 186 #[(π D),.string x,(π A)] w fun e b=>e=ε (nT (uT ns vs c x))/\μ w b:=by
 obtain⟨s,_,l,_,r⟩:=h;obtain⟨L,K,I⟩:=s.boxed;have H:=Q7 fun W k=>FQ W A vs c x (hs.below k) F;have E:=Q7 fun W k=>LP W C ns x (l.below k) r;have q:=Q8.new w #[.bool false,ι 0,ι 0] 284;cases g:zP x with
 |true=>
  have i:Hid (∀W,Calls prog 156 #[.string x] W fun e b=>e=ε (.bool true)/\b=W):=fun W=>by rw[←g];exact fU x W
  have u:Hid (uT ns vs c x=⟨true,uF vs c x,0⟩):=by rw[Hid,uT,g];rfl
  generalize uF vs c x=p at *;go_enter func186,ntmps186;go_wp2_with (first|(go_at_call 156;refine(i.out _).mono ?_;rintro e b ⟨rfl,a⟩;obtain rfl:=a.symm)|(go_at_call 201;refine(H.out _ (by exact(by go_grown))).mono ?_;rintro e b ⟨rfl,a⟩;obtain rfl:=a.symm))
  (try simp only[Exit.inBlock,Exit.then])
  exact zK (v:=.agg #[.bool true,ι p,ι 0]) (by simp[results,results186,go_sem]) rfl ⟨by rw[u.out];rfl,(by go_grown)⟩
 |false=>
  have i:Hid (∀W,Calls prog 156 #[.string x] W fun e b=>e=ε (.bool false)/\b=W):=fun W=>by rw[←g];exact fU x W
  have u:Hid (uT ns vs c x=⟨false,(ur ns x).getD 0,0⟩):=by rw[Hid,uT,g];rfl
  generalize (ur ns x).getD 0=p at *;go_enter func186,ntmps186;go_wp2_with (first|(go_at_call 156;refine(i.out _).mono ?_;rintro e b ⟨rfl,a⟩;obtain rfl:=a.symm)|(go_at_call 129;refine(E.out _ (by exact(by go_grown))).mono ?_;rintro e B ⟨rfl,m,f⟩;have d:Below (w.alloc (.cells #[.bool false,ι 0,ι 0] 284)).heap.size (w.alloc (.cells #[.bool false,ι 0,ι 0] 284)) B:=(by rw[f];exact zJ (zo _ _) m);have y:=q.below d;obtain⟨z,G,J⟩:=y.boxed;have n:μ w B:=(zQ (by go_grown) d (zg _));clear f))
  (try simp only[Exit.inBlock,Exit.then])
  exact zK (v:=.agg #[.bool false,ι p,ι 0]) (by simp[results,results186,go_sem,z]) rfl ⟨by rw[u.out];rfl,((n.setCell (by simp) _).setCell (by simp) _).setCell (by simp) _⟩
end
section
variable {lo:Nat}{ts':List zZ}
theorem Qx:(prog.info? 284).map (fun i=>(i.zero,i.size,i.bytes))=some (some (.agg #[.bool false,ι 0,ι 0]),3,24):=by kernel_rfl
def jv(p:Nat)(ts:List zZ)(t:zZ):zZ:=if t.var then{t with level:=(yQ ⟨p,ts⟩ t.num).getD 0} else t
def uh(ns vs:κ)(a:List Nat)(l:zj):List zZ:=l.args.map (uT ns vs a)
def zL(t:List zh)(ns vs:κ)(a:List Nat)(l:zj):zu:=⟨zO t l.pred,(uh ns vs a l).map (jv 0 (uh ns vs a l))⟩
def fB(t:zZ):Bool×Nat:=(t.var,t.num)
theorem Pe{ts:List zZ}(h:ts.map fB=ts'.map fB)(p a q:Nat):zH ⟨p,ts⟩ q=zH ⟨a,ts'⟩ q:=by
 have e:∀l:List zZ,(l.any fun t=>t.var&&t.num == q)=(l.map fB).any fun x=>x.1&&x.2 == q:=fun l=>by
  rw[List.any_map];rfl
 simp only[zH];rw[e,e,h]
theorem NH{ts:List zZ}(h:ts.map fB=ts'.map fB)(p a q:Nat):yQ ⟨p,ts⟩ q=yQ ⟨a,ts'⟩ q:=by
 unfold yQ;have:zH ⟨p,ts⟩=zH ⟨a,ts'⟩:=funext (Pe h p a);rw[this]
theorem FA(p:Nat)(ts:List zZ)(t:zZ):fB (jv p ts t)=fB t:=by
 unfold jv;split<;>rfl
def vJ(ts:List zZ)(k:Nat):List zZ:=(ts.take k).map (jv 0 ts)++ts.drop k
theorem CS(ts:List zZ)(k:Nat):(vJ ts k).map fB=ts.map fB:=by
 unfold vJ;rw[uP,mK,List.map_drop,show(fB ∘ jv 0 ts)=fB from funext (FA 0 ts),List.map_take,jt]
theorem I1(ts:List zZ)(k:Nat):(vJ ts k).length=ts.length:=by
 have:=congrArg List.length (CS ts k);simpa using this
theorem Ke(ts:List zZ)(k:Nat)(a:k<ts.length):(vJ ts k)[k]?=some ts[k]:=by
 unfold vJ;rw[d9 (by simp;omega),uu,qC,d8 (by omega),kf,List.getElem?_drop];simp[a]
theorem GI(ts:List zZ)(k:Nat)(a:k<ts.length):(vJ ts k).set k (jv 0 ts ts[k])=vJ ts (k+1):=by
 unfold vJ;rw[fM _ _ (by simp;omega),uu,qC,d8 (by omega),kf,xn a,nW,yL a,uP,ky];rfl
theorem LE(ts:List zZ):vJ ts 0=ts:=by simp[vJ]
theorem Dg(ts:List zZ):vJ ts ts.length=ts.map (jv 0 ts):=by simp[vJ]
theorem ON{l:zu}{q:Nat}(a:q<=1000000):(yQ l q).getD 0<=1000000:=by
 unfold yQ;split
 ·have:=rI (p:=zH l) (l:=List.range q);simp at this ⊢;omega
 ·simp
theorem Gw(ns:κ)(x:ByteArray):(ur ns x).getD 0<=ns.length:=by
 unfold ur;split
 ·simp;omega
 ·simp
theorem Nz(vs:κ)(a:List Nat)(n:ByteArray)(h:∀x∈a,x<=1000):uF vs a n<=1000:=by
 unfold uF;split
 ·omega
 ·split
  ·omega
  ·rename_i k _ _;by_cases b:k<a.length
   ·rw[gL,yp b];exact h _ (zs b)
   ·rw[gL,kV (by omega)];simp
theorem I2(ns vs:κ)(a:List Nat)(x:ByteArray)(h:∀y∈a,y<=1000)(b:ns.length<=1000):(uT ns vs a x).num<=1000/\(uT ns vs a x).level=0:=by
 unfold uT;split
 ·exact⟨Nz vs a x h,rfl⟩
 ·have:=Gw ns x;exact⟨by simp only;omega,rfl⟩
theorem iZ{α:Type}{l:List α}{k:Nat}{x:α}(h:l[k]?=some x):l.set k x=l:=by
 obtain⟨a,e⟩:=jX.1 h;rw[←e];exact rA a
theorem Jp(ts:List zZ)(k:Nat)(t:zZ)(b:Nat)(h:ts[k]?=some t):(QV (ts.map jI)).set (k*3+2) (ι b)=QV ((ts.set k {t with level:=b}).map jI):=by
 obtain⟨f,e⟩:=jX.1 h;have a:k<(ts.map jI).length:=by simpa using f
 have q:=o4 (ts.map jI) k a (.bool t.var) (ι t.num) (ι b);obtain⟨d,c,_⟩:=tR (ts.map jI) k a;simp only[uJ,e,jI] at d c;rw[iZ d,iZ c] at q;rw[q,fu];rfl
def gO(ts:List zZ)(k:Nat):List zZ:=ts.take k++List.replicate (ts.length-k) ⟨false,0,0⟩
theorem Iw(ts:List zZ)(k:Nat)(a:k<=ts.length):(gO ts k).length=ts.length:=by simp[gO];omega
theorem Lx(ts:List zZ)(k:Nat)(b:k<ts.length):(gO ts k).set k ts[k]=gO ts (k+1):=by
 unfold gO;obtain⟨m,a⟩:∃m,ts.length-k=m+1:=⟨ts.length-k-1,by omega⟩;rw[fM _ _ (by simp;omega),qC,d8 (by omega),kf,a,rH,nW,show ts.length-(k+1)=m from by omega,yL b,ky];rfl
theorem II(ts:List zZ):gO ts ts.length=ts:=by simp[gO]
theorem Av(ts:List zZ)(k:Nat)(h:∀x∈ts,x.num<=1000/\x.level=0):∀x∈vJ ts k,x.num<=1000000/\x.level<=1000000:=by
 intro x a;unfold vJ at a;rw[zI] at a;rcases a with a|a
 ·rw[z7] at a;obtain⟨y,b,rfl⟩:=a;have:=h y (fV b);unfold jv;split
  ·exact⟨by simp only;omega,ON (by omega)⟩
  ·omega
 ·have:=h x (dQ a);omega
theorem oQ{w:World}{d:Nat}{e:TypeId}{g n cap m:Nat}{f:List (Value×Value×Value)}(h:w.ownsRow d e 3 (.slice (some ⟨g,0,none⟩) n cap) m (QV f))(k:Nat)(i:k<f.length):
  ∃a b c,g<w.heap.size/\w.cell? ⟨g,k*3,none⟩=some a/\w.cell? ⟨g,k*3+1,none⟩=some b/\w.cell? ⟨g,k*3+2,none⟩=some c:=⟨_,_,_,en h k i⟩
theorem Di{a0 aA:Nat}(w:World)(mb tb o cb sb:Nat)(t:List zh)(ns vs:κ)(u:List Nat)(l:zj)(va:Value)(h:mY lo w mb tb o cb t ns)(hs:gF a0 w sb vs u)(hl:vs.length<=1000)(a1:∀y∈u,y<=1000)(ha:QF aA w va l.args)(am:l.args.length<=1000):
  Calls prog 160 #[(π mb),.agg #[.bool l.neg,.string l.pred,va],(π sb)] w fun e M=>∃tv,e=ε (.agg #[ι (zO t l.pred:Nat),tv])/\yh w.heap.size M tv (zL t ns vs u l).qg/\μ w M:=by
 obtain⟨i0,hi,au,a7,aD⟩:=info_parts Qx;obtain⟨ao,A,rfl⟩:=ha.qx;have an:=fun W:World=>run_make (P:=prog) (w:=W) 202 284 i0 _ underlying202 hi au .i64 .i64 (l.args.length:Int) (l.args.length:Int) (by omega) (Int.le_refl _) (by rw[aD];omega) (by omega);rw[a7] at an;have HF:=Q7 fun W K=>O0 lo W tb o t l.pred (h.2.1.below K) h.2.2.2.1;have HT:=Q7 fun W x K=>N4 W mb tb o cb sb t ns vs u x (h.below K) (hs.below K) hl;have T:Hid (∀x∈uh ns vs u l,x.num<=1000/\x.level=0):=fun x hx=>by
  simp only[uh,z7] at hx;obtain⟨y,_,rfl⟩:=hx;exact I2 ns vs u y a1 h.2.2.2.2
 have HE:Hid ((zL t ns vs u l).qg=(uh ns vs u l).map (jv 0 (uh ns vs u l))):=rfl;have n:(uh ns vs u l).length=l.args.length:=by simp[uh]
 have ah:Hid (∀k (hk:k<l.args.length) (aw:k<(uh ns vs u l).length),uT ns vs u l.args[k]=(uh ns vs u l)[k]):=fun k hk aw=>by simp[uh]
 obtain⟨aj,a9,aL⟩:=h.1.boxed;have a3:w.cell? ⟨mb,0,none⟩=some (.pointer (some ⟨tb,o,none⟩)):=by rw[aj];rfl
 clear h hs aj;generalize uh ns vs u l=b at *;generalize zO t l.pred=C at *;generalize (yo t l.pred).isSome=fb at *;go_enter func160,ntmps160;go_upto_region 1 with fail
 go_quiet ((go_at_call 77;exact Calls.quiet_of_same (HF.out _ (by exact(by repeat'(first|with_reducible(first|apply zR|assumption|apply zN|apply zA|apply zD|apply zS)|go_size))))))
 go_upto_region 4 with fail
 have a:=zB (I0 ((((w.alloc (.cells #[.bool l.neg,.string l.pred,.slice ao l.args.length A] 90)).alloc (.cells #[ι 0,ν] 204)).drewN nq)) l.args.length 284 (.bool false) (ι 0) (ι 0) (by unfold maxLen;omega)) ((zo _ _).alloc (zg _) (.cells #[ι C,.slice (some ⟨w.heap.size+1+1,0,none⟩) l.args.length l.args.length] 204));have c:=Q8.new ((((w.alloc (.cells #[.bool l.neg,.string l.pred,.slice ao l.args.length A] 90)).alloc (.cells #[ι 0,ν] 204)).drewN nq).alloc (.cells (madeCells #[.bool false,ι 0,ι 0] (l.args.length*3)) 284)) #[ι C,.slice (some ⟨w.heap.size+1+1,0,none⟩) l.args.length l.args.length] 204;have d:=(((Q8.new (w.alloc (.cells #[.bool l.neg,.string l.pred,.slice ao l.args.length A] 90)) #[ι 0,ν] 204).below (zJ (zo _ _) nq)).below ((zo _ _).alloc (zg _) (.cells (madeCells #[.bool false,ι 0,ι 0] (l.args.length*3)) 284))).below ((zo _ _).alloc (zg _) (.cells #[ι C,.slice (some ⟨w.heap.size+1+1,0,none⟩) l.args.length l.args.length] 204));have ab:μ w (((((w.alloc (.cells #[.bool l.neg,.string l.pred,.slice ao l.args.length A] 90)).alloc (.cells #[ι 0,ν] 204)).drewN nq).alloc (.cells (madeCells #[.bool false,ι 0,ι 0] (l.args.length*3)) 284)).alloc (.cells #[ι C,.slice (some ⟨w.heap.size+1+1,0,none⟩) l.args.length l.args.length] 204)):=(by repeat'(first|with_reducible(first|apply zR|assumption|apply zN|apply zA|apply zD|apply zS)|go_size));have J:(((w.alloc (.cells #[.bool l.neg,.string l.pred,.slice ao l.args.length A] 90)).alloc (.cells #[ι 0,ν] 204)).drewN nq).heap.size=w.heap.size+1+1:=by simp
 simp only[World.size_alloc,J] at a c d;clear J;generalize ((((w.alloc (.cells #[.bool l.neg,.string l.pred,.slice ao l.args.length A] 90)).alloc (.cells #[ι 0,ν] 204)).drewN nq).alloc (.cells (madeCells #[.bool false,ι 0,ι 0] (l.args.length*3)) 284)).alloc (.cells #[ι C,.slice (some ⟨w.heap.size+1+1,0,none⟩) l.args.length l.args.length] 204)=w3 at *;have ar:=ab.size;have H0:Hid (QV (List.replicate l.args.length (Value.bool false,Value.int .i64 0,Value.int .i64 0))=QV ((gO b 0).map jI)):=by
  rw[Hid,gO,List.take_zero,pB,Nat.sub_zero,n,List.map_replicate];rfl
 rw[H0.out] at a;clear H0 an a3 a9 HF;have a:=yt a (show w.heap.size<=w.heap.size+1+1 by omega);go_loopw [35] (fun aC wr=>∃k:Nat,k<=l.args.length/\aC=ι k/\Q8 wr (w.heap.size+1+1+1) #[ι C,.slice (some ⟨w.heap.size+1+1,0,none⟩) l.args.length l.args.length] 204/\Q8 wr (w.heap.size+1) #[ι 0,ν] 204/\wr.ownsRow w.heap.size 284 3 (.slice (some ⟨w.heap.size+1+1,0,none⟩) l.args.length l.args.length) l.args.length (QV ((gO b k).map jI))/\μ w wr) (fun i _=>l.args.length-(intOf i).toNat)
 case atStart=>exact⟨0,zv _,rfl,c,d,a,ab⟩
 case round=>
  clear a c d;obtain⟨k,hk,rfl,c,d,a,m⟩:=hrel;have N:=m.size;by_cases r:k<l.args.length
  ·obtain⟨g,rfl,hg,D⟩:=ha.cell k r;have aN:=zl m hg D;have aJ:g<wr.heap.size:=by omega
   have s:=Q7 (Lx b k (by omega));have az:=Q7 (ah.out k r (by omega));have aP:=Iw b k (by omega);obtain⟨e0,e1,e2,aE,F,R,Q⟩:=oQ a k (by simp;omega);have av:=qO a;obtain⟨G,I,H⟩:=c.boxed;have aH:wr.cell? ⟨w.heap.size+1+1+1,1,none⟩=some (.slice (some ⟨w.heap.size+1+1,0,none⟩) l.args.length l.args.length):=by rw[G];rfl
   clear D;have ap:Hid (∀W,μ wr W->Calls prog 186 #[(π mb),.string l.args[k],(π sb)] W fun e M=>e=ε (.agg #[.bool b[k].var,ι (b[k].num:Nat),ι (b[k].level:Nat)])/\μ W M):=fun W K=>by
    have q:=HT.out W l.args[k] (QB m K);rw[az.out] at q;exact q
   generalize b[k]=tk at *;generalize l.args[k]=x at *;generalize (gO b k)=lk at *;go_wp2;go_region_held3 (fun M=>M.cell? ⟨w.heap.size+1+1+1,1,none⟩=some (.slice (some ⟨w.heap.size+1+1,0,none⟩) l.args.length l.args.length)) (first|go_keep|(go_simp;done)) (first|(go_at_call 186;refine(ap.out _ (by exact(by repeat'(first|with_reducible(first|apply zR|assumption|apply zN|apply zA|apply zD|apply zS)|go_size)))).mono ?_;rintro e Z ⟨rfl,S⟩;have j:μ wr Z:=(zQ (by repeat'(first|with_reducible(first|apply zR|assumption|apply zN|apply zA|apply zD|apply zS)|go_size)) S (zg _));have B:=c.below j;have V:=d.below j;have p:=zB a j;obtain⟨af,ae,ak⟩:=B.boxed;obtain⟨f0,f1,f2,a2,ay,aq,aG⟩:=oQ p k (by simp;omega);have ac:=qO p;have ax:=j.size))
   have f:=OK p k (by simp;omega) (.bool tk.var) (ι tk.num) (ι tk.level);have HM:(lk.map jI).set k (.bool tk.var,ι tk.num,ι tk.level)=(gO b (k+1)).map jI:=by rw[←s.out,fu];rfl
   rw[HM] at f;have Y:=((B.set_ne (show w.heap.size+1+1+1≠w.heap.size+1+1 by omega) (k*3) (.bool tk.var)).set_ne (show w.heap.size+1+1+1≠w.heap.size+1+1 by omega) (k*3+1) (ι tk.num)).set_ne (show w.heap.size+1+1+1≠w.heap.size+1+1 by omega) (k*3+2) (ι tk.level);have aa:=((V.set_ne (show w.heap.size+1≠w.heap.size+1+1 by omega) (k*3) (.bool tk.var)).set_ne (show w.heap.size+1≠w.heap.size+1+1 by omega) (k*3+1) (ι tk.num)).set_ne (show w.heap.size+1≠w.heap.size+1+1 by omega) (k*3+2) (ι tk.level);have O:μ w (((Z.setCell ⟨w.heap.size+1+1,k*3,none⟩ (.bool tk.var)).setCell ⟨w.heap.size+1+1,k*3+1,none⟩ (ι tk.num)).setCell ⟨w.heap.size+1+1,k*3+2,none⟩ (ι tk.level)):=(((QB m j).setCell (by simp;omega) _).setCell (by simp;omega) _).setCell (by simp;omega) _;generalize ((Z.setCell ⟨w.heap.size+1+1,k*3,none⟩ (.bool tk.var)).setCell ⟨w.heap.size+1+1,k*3+1,none⟩ (ι tk.num)).setCell ⟨w.heap.size+1+1,k*3+2,none⟩ (ι tk.level)=w5 at *;go_wp2;go_roundw
   ·exact⟨k+1,by omega,by go_num,Y,aa,f,O⟩
   ·simp[intOf];omega
  ·obtain rfl:k=l.args.length:=by omega
   rw[←n,II] at a;rw[←n] at c;clear r hk;obtain⟨G,I,H⟩:=c.boxed;go_wp2;clear G I H;rw[←n] at am ⊢;clear ab ar HT ah n;go_loopw [52] (fun a4 wr=>∃k:Nat,k<=b.length/\a4=ι k/\Q8 wr (w.heap.size+1+1+1) #[ι C,.slice (some ⟨w.heap.size+1+1,0,none⟩) b.length b.length] 204/\Q8 wr (w.heap.size+1) #[ι 0,ν] 204/\wr.ownsRow w.heap.size 284 3 (.slice (some ⟨w.heap.size+1+1,0,none⟩) b.length b.length) b.length (QV ((vJ b k).map jI))/\μ w wr) (fun i _=>b.length-(intOf i).toNat)
   case atStart=>exact⟨0,zv _,rfl,c,d,by rw[LE];exact a,m⟩
   case round=>
    clear a c d m N;obtain⟨k,hk,rfl,c,d,a,m⟩:=hrel;have N:=m.size;by_cases r:k<b.length
    ·have aB:=I1 b k;have E:=Q7 (Ke b k r);have s:=Q7 (GI b k r);have ad:Hid (yQ ⟨C,vJ b k⟩ b[k].num=yQ ⟨0,b⟩ b[k].num):=NH (CS b k) _ _ _;have z:Hid (jv 0 b b[k]=if b[k].var then{b[k] with level:=(yQ ⟨0,b⟩ b[k].num).getD 0} else b[k]):=rfl;have L:=Av b k T.out;have aI:=(T.out b[k] (zs r)).1;obtain⟨aE,F,R,Q⟩:=en a k (by simp;omega);have ag:k<(vJ b k).length:=by omega
     have al:(vJ b k)[k]=b[k]:=by have q:=E.out;rw[yp ag] at q;simpa using q
     simp only[uJ,al,jI] at F R Q;have av:=qO a;obtain⟨G,I,H⟩:=c.boxed;have ai:Hid (yh w.heap.size wr (.slice (some ⟨w.heap.size+1+1,0,none⟩) b.length b.length) (vJ b k)):=⟨by rw[aB];exact a,by omega,L⟩;have a6:Hid (∀W,μ wr W->Calls prog 187 #[.agg #[ι C,.slice (some ⟨w.heap.size+1+1,0,none⟩) b.length b.length],ι (b[k].num:Nat)] W fun e M=>e=ε (.tuple #[ι (((yQ ⟨0,b⟩ b[k].num).getD 0:Nat):Int),.bool (yQ ⟨0,b⟩ b[k].num).isSome])/\μ W M):=fun W K=>by
      have q:=D8 W _ C b[k].num (vJ b k) (ai.out.below K) (by omega);rw[ad.out] at q;exact q
     clear ag al ad L ai;generalize b[k]=tk at *;generalize vJ b k=X at *;generalize (yQ ⟨0,b⟩ tk.num).getD 0=U at *;generalize (yQ ⟨0,b⟩ tk.num).isSome=lb at *;cases hv:tk.var with
     |false=>
      rw[hv] at F z;simp only[gJ,if_false] at z;go_wp2;have a5:Hid (X=vJ b (k+1)):=by
       rw[Hid,←s.out,z.out];exact(iZ E.out).symm
      go_roundw
      ·exact⟨k+1,by omega,by go_num,c.below (by repeat'(first|with_reducible(first|apply zR|assumption|apply zN|apply zA|apply zD|apply zS)|go_size)),d.below (by repeat'(first|with_reducible(first|apply zR|assumption|apply zN|apply zA|apply zD|apply zS)|go_size)),by rw[←a5.out];exact zB a (by repeat'(first|with_reducible(first|apply zR|assumption|apply zN|apply zA|apply zD|apply zS)|go_size)),zQ m (by repeat'(first|with_reducible(first|apply zR|assumption|apply zN|apply zA|apply zD|apply zS)|go_size)) (zg _)⟩
      ·simp[intOf];omega
     |true=>
      rw[hv] at F z;simp only[if_true] at z;have aM:wr.heap.size≠w.heap.size+1+1:=by omega
      go_upto_region 13 with (first|(go_at_call 187;refine(a6.out _ (by exact(by repeat'(first|with_reducible(first|apply zR|assumption|apply zN|apply zA|apply zD|apply zS)|go_size)))).mono ?_;rintro e Z ⟨rfl,S⟩;have j:μ wr Z:=(zQ (by repeat'(first|with_reducible(first|apply zR|assumption|apply zN|apply zA|apply zD|apply zS)|go_size)) S (zg _));have B:=c.below j;have V:=d.below j;have p:=zB a j;obtain⟨af,ae,ak⟩:=B.boxed;obtain⟨f0,f1,f2,a2,ay,aq,aG⟩:=oQ p k (by simp;omega);have ac:=qO p;have ax:=j.size))
      have f:=uW p (k*3+2) (by rw[rV];simp;omega) (ι U);have Y:=B.set_ne (show w.heap.size+1+1+1≠w.heap.size+1+1 by omega) (k*3+2) (ι U);have aa:=V.set_ne (show w.heap.size+1≠w.heap.size+1+1 by omega) (k*3+2) (ι U);have O:μ w (Z.setCell ⟨w.heap.size+1+1,k*3+2,none⟩ (ι U)):=((QB m j).setCell (by simp;omega) _);have HM:Hid ((QV (X.map jI)).set (k*3+2) (ι U)=QV ((vJ b (k+1)).map jI)):=by
       rw[Hid,←s.out,z.out];exact Jp X k tk U E.out
      rw[HM.out] at f;clear F R Q;go_wp2;generalize Z.setCell ⟨w.heap.size+1+1,k*3+2,none⟩ (ι U)=w5 at *;go_roundw
      ·exact⟨k+1,by omega,by go_num,Y,aa,f,O⟩
      ·simp[intOf];omega
    ·obtain rfl:k=b.length:=by omega
     rw[Dg] at a;obtain⟨G,I,H⟩:=c.boxed;obtain⟨aF,aO,aK⟩:=d.boxed;have a8:Hid (∀x∈b.map (jv 0 b),x.num<=1000000/\x.level<=1000000):=by rw[←Dg];exact Av b _ T.out
     go_wp2
     (try simp only[Exit.inBlock,Exit.then])
     refine zK (v:=.agg #[ι C,.slice (some ⟨w.heap.size+1+1,0,none⟩) b.length b.length]) (by simp[results,results160,go_sem,aF]) rfl ⟨_,rfl,?_,(m.setCell (by simp) _).setCell (by simp) _⟩;rw[HE.out];refine⟨?_,by simpa using am,a8.out⟩;rw[uu];exact xO a (((QJ.refl (w.heap.size+1) wr).setCell 0 _).setCell 1 _) d (by decide)
end
end Go.Proofs.YteampbddflhngaaGreat
