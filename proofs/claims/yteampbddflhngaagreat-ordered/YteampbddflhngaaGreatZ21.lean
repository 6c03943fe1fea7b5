import Derived.Test.YteampbddflhngaaGreatZ13
import Derived.Test.YteampbddflhngaaGreatZ14
namespace Go.Proofs.YteampbddflhngaaGreat
set_option linter.all false
set_option maxRecDepth 100000
set_option maxHeartbeats 4000000
open Go.Proofs.Tryz Go.RowKit
section
variable {lo:Nat}
def g5(lo:Nat)(w:World)(h:Nat)(vs:κ)(g:List Nat):Prop:=∃d b f a c e,g=[b,f,a,c,e]/\Q6 w h #[d,ι (b:Nat),ι (f:Nat),ι (a:Nat),ι (c:Nat),ι (e:Nat)] 257/\QD lo w d vs
theorem g5.below{w w':World}{c:Nat}{vs:κ}{b:List Nat}(h:g5 lo w c vs b)(a:μ w w'):g5 lo w' c vs b:=by
 obtain⟨k,e,m,d,f,l,g,j,i⟩:=h;exact⟨k,e,m,d,f,l,g,j.below a,i.below a⟩
def uD(vs:κ)(a:List Nat)(n:ByteArray):Nat:=match yu vs n with
 |none=>0
 |some k=>if k≥5 then 0 else a.getD k 0
theorem IZ(w:World)(o:Nat)(vs:κ)(t:List Nat)(n:ByteArray)(h:g5 lo w o vs t)(v:vs.length<=1000):
  Calls prog 201 #[(π o),.string n] w fun e m=>e=ε (ι (uD vs t n:Nat))/\m=w:=by
 obtain⟨z,i,f,c,b,j,rfl,q,y⟩:=h;obtain⟨p,A⟩:=q.rules;have l:=Q5 (GX w o z vs n (by rw[p];rfl) y v);have g:Hid (uD vs [i,f,c,b,j] n=match yu vs n with|none=>0|some k=>if k≥5 then 0 else [i,f,c,b,j].getD k 0):=rfl;cases s:yu vs n with
 |none=>
  rw[s] at l g;go_enter func201,ntmps201;go_wp2_with (go_at_call 200;refine l.out.mono ?_;rintro e m ⟨rfl,a⟩;obtain rfl:=a.symm)
  go_ret;exact⟨by rw[g.out];rfl,rfl⟩
 |some k=>
  rw[s] at l g;simp only[ur,jV] at l g;by_cases B:k<5
  ·have r:(k:Int)<5:=by omega
   have d:Hid (uD vs [i,f,c,b,j] n=[i,f,c,b,j].getD k 0):=by rw[Hid,g.out,za (by omega)]
   have x:w.cell? ⟨o,1+k,none⟩=some (ι (([i,f,c,b,j].getD k 0:Nat):Int)):=by
    rw[p];obtain rfl|rfl|rfl|rfl|rfl:k=0∨k=1∨k=2∨k=3∨k=4:=by omega
    all_goals rfl
   generalize [i,f,c,b,j].getD k 0=u at *;clear p g;go_enter func201,ntmps201;go_wp2_with (go_at_call 200;refine l.out.mono ?_;rintro e m ⟨rfl,a⟩;obtain rfl:=a.symm)
   go_ret;exact⟨by rw[d.out];rfl,rfl⟩
  ·have r:¬(k:Int)<5:=by omega
   have d:Hid (uD vs [i,f,c,b,j] n=0):=by rw[Hid,g.out,zc (by omega)]
   go_enter func201,ntmps201;go_wp2_with (go_at_call 200;refine l.out.mono ?_;rintro e m ⟨rfl,a⟩;obtain rfl:=a.symm)
   go_ret;exact⟨by rw[d.out];rfl,rfl⟩
def mT(lo:Nat)(w:World)(b tb o a:Nat)(t:List zh)(ns:κ):Prop:=Q6 w b #[.pointer (some ⟨tb,o,none⟩),(π a)] 200/\TG lo w tb o t/\lR lo w a ns/\t.length<=1000/\ns.length<=1000
theorem mT.below{w w':World}{b tb o c:Nat}{t:List zh}{ns:κ}(h:mT lo w b tb o c t ns)(a:μ w w'):mT lo w' b tb o c t ns:=⟨h.1.below a,h.2.1.below a,h.2.2.1.below a,h.2.2.2⟩
def uH(ns vs:κ)(a:List Nat)(t:ByteArray):zZ:=if zO t then⟨true,uD vs a t,0⟩ else⟨false,(um ns t).getD 0,0⟩
theorem KF{q:Nat}(w:World)(B tb o C r:Nat)(t:List zh)(ns vs:κ)(c:List Nat)(x:ByteArray)(h:mT lo w B tb o C t ns)(hs:g5 q w r vs c)(G:vs.length<=1000):
  Calls prog 186 #[(π B),.string x,(π r)] w fun e b=>e=ε (nQ (uH ns vs c x))/\μ w b:=by
 obtain⟨j,_,z,_,A⟩:=h;obtain⟨K,L,J⟩:=j.boxed;have H:=Q5 fun W k=>IZ W r vs c x (hs.below k) G;have F:=Q5 fun W k=>OR W C ns x (z.below k) A;have s:=Q6.new w #[.bool false,ι 0,ι 0] 284;cases g:zO x with
 |true=>
  have u:Hid (∀W,Calls prog 156 #[.string x] W fun e b=>e=ε (.bool true)/\b=W):=fun W=>by rw[←g];exact la x W
  have p:Hid (uH ns vs c x=⟨true,uD vs c x,0⟩):=by rw[Hid,uH,g];rfl
  generalize uD vs c x=i at *;go_enter func186,ntmps186;go_wp2_with (first|(go_at_call 156;refine(u.out _).mono ?_;rintro e b ⟨rfl,a⟩;obtain rfl:=a.symm)|(go_at_call 201;refine(H.out _ (by exact(by go_grown))).mono ?_;rintro e b ⟨rfl,a⟩;obtain rfl:=a.symm))
  (try simp only[Exit.inBlock,Exit.then])
  exact zL (v:=.agg #[.bool true,ι i,ι 0]) (by simp[results,results186,go_sem]) rfl ⟨by rw[p.out];rfl,(by go_grown)⟩
 |false=>
  have u:Hid (∀W,Calls prog 156 #[.string x] W fun e b=>e=ε (.bool false)/\b=W):=fun W=>by rw[←g];exact la x W
  have p:Hid (uH ns vs c x=⟨false,(um ns x).getD 0,0⟩):=by rw[Hid,uH,g];rfl
  generalize (um ns x).getD 0=i at *;go_enter func186,ntmps186;go_wp2_with (first|(go_at_call 156;refine(u.out _).mono ?_;rintro e b ⟨rfl,a⟩;obtain rfl:=a.symm)|(go_at_call 129;refine(F.out _ (by exact(by go_grown))).mono ?_;rintro e D ⟨rfl,m,f⟩;have d:Below (w.alloc (.cells #[.bool false,ι 0,ι 0] 284)).heap.size (w.alloc (.cells #[.bool false,ι 0,ι 0] 284)) D:=(by rw[f];exact zJ (zo _ _) m);have y:=s.below d;obtain⟨l,E,I⟩:=y.boxed;have n:μ w D:=(zQ (by go_grown) d (zg _));clear f))
  (try simp only[Exit.inBlock,Exit.then])
  exact zL (v:=.agg #[.bool false,ι i,ι 0]) (by simp[results,results186,go_sem,l]) rfl ⟨by rw[p.out];rfl,((n.setCell (by simp) _).setCell (by simp) _).setCell (by simp) _⟩
end
section
variable {lo:Nat}{ts':List zZ}
theorem Q1:(prog.info? 284).map (fun i=>(i.zero,i.size,i.bytes))=some (some (.agg #[.bool false,ι 0,ι 0]),3,24):=by kernel_rfl
def ju(p:Nat)(ts:List zZ)(t:zZ):zZ:=if t.var then{t with level:=(yN ⟨p,ts⟩ t.num).getD 0} else t
def uj(ns vs:κ)(a:List Nat)(l:zj):List zZ:=l.args.map (uH ns vs a)
def zK(t:List zh)(ns vs:κ)(a:List Nat)(l:zj):zu:=⟨zP t l.pred,(uj ns vs a l).map (ju 0 (uj ns vs a l))⟩
def fo(t:zZ):Bool×Nat:=(t.var,t.num)
theorem JF{ts:List zZ}(h:ts.map fo=ts'.map fo)(p a q:Nat):zH ⟨p,ts⟩ q=zH ⟨a,ts'⟩ q:=by
 have e:∀l:List zZ,(l.any fun t=>t.var&&t.num == q)=(l.map fo).any fun x=>x.1&&x.2 == q:=fun l=>by
  rw[List.any_map];rfl
 simp only[zH];rw[e,e,h]
theorem K1{ts:List zZ}(h:ts.map fo=ts'.map fo)(p a q:Nat):yN ⟨p,ts⟩ q=yN ⟨a,ts'⟩ q:=by
 unfold yN;have:zH ⟨p,ts⟩=zH ⟨a,ts'⟩:=funext (JF h p a);rw[this]
theorem L1(p:Nat)(ts:List zZ)(t:zZ):fo (ju p ts t)=fo t:=by
 unfold ju;split<;>rfl
def vA(ts:List zZ)(k:Nat):List zZ:=(ts.take k).map (ju 0 ts)++ts.drop k
theorem DJ(ts:List zZ)(k:Nat):(vA ts k).map fo=ts.map fo:=by
 unfold vA;rw[uQ,ml,List.map_drop,show(fo ∘ ju 0 ts)=fo from funext (L1 0 ts),List.map_take,qZ]
theorem MX(ts:List zZ)(k:Nat):(vA ts k).length=ts.length:=by
 have:=congrArg List.length (DJ ts k);simpa using this
theorem OZ(ts:List zZ)(k:Nat)(a:k<ts.length):(vA ts k)[k]?=some ts[k]:=by
 unfold vA;rw[gX (by simp;omega),uu,qt,dP (by omega),jX,List.getElem?_drop];simp[a]
theorem Li(ts:List zZ)(k:Nat)(a:k<ts.length):(vA ts k).set k (ju 0 ts ts[k])=vA ts (k+1):=by
 unfold vA;rw[fW _ _ (by simp;omega),uu,qt,dP (by omega),jX,xp a,nG,yM a,uQ,kH];rfl
theorem NM(ts:List zZ):vA ts 0=ts:=by simp[vA]
theorem D1(ts:List zZ):vA ts ts.length=ts.map (ju 0 ts):=by simp[vA]
theorem GN{l:zu}{q:Nat}(a:q<=1000000):(yN l q).getD 0<=1000000:=by
 unfold yN;split
 ·have:=rO (p:=zH l) (l:=List.range q);simp at this ⊢;omega
 ·simp
theorem KD(ns:κ)(x:ByteArray):(um ns x).getD 0<=ns.length:=by
 unfold um;split
 ·simp;omega
 ·simp
theorem KE(vs:κ)(a:List Nat)(n:ByteArray)(h:∀x∈a,x<=1000):uD vs a n<=1000:=by
 unfold uD;split
 ·omega
 ·split
  ·omega
  ·rename_i k _ _;by_cases b:k<a.length
   ·rw[gs,yq b];exact h _ (zs b)
   ·rw[gs,kF (by omega)];simp
theorem Mq(ns vs:κ)(a:List Nat)(x:ByteArray)(h:∀y∈a,y<=1000)(b:ns.length<=1000):(uH ns vs a x).num<=1000/\(uH ns vs a x).level=0:=by
 unfold uH;split
 ·exact⟨KE vs a x h,rfl⟩
 ·have:=KD ns x;exact⟨by simp only;omega,rfl⟩
theorem eX{α:Type}{l:List α}{k:Nat}{x:α}(h:l[k]?=some x):l.set k x=l:=by
 obtain⟨a,e⟩:=jM.1 h;rw[←e];exact rc a
theorem JK(ts:List zZ)(k:Nat)(t:zZ)(b:Nat)(h:ts[k]?=some t):(QT (ts.map jL)).set (k*3+2) (ι b)=QT ((ts.set k {t with level:=b}).map jL):=by
 obtain⟨f,e⟩:=jM.1 h;have a:k<(ts.map jL).length:=by simpa using f
 have q:=iy (ts.map jL) k a (.bool t.var) (ι t.num) (ι b);obtain⟨c,d,_⟩:=sM (ts.map jL) k a;simp only[uM,e,jL] at c d;rw[eX c,eX d] at q;rw[q,dU];rfl
def dM(ts:List zZ)(k:Nat):List zZ:=ts.take k++List.replicate (ts.length-k) ⟨false,0,0⟩
theorem LD(ts:List zZ)(k:Nat)(a:k<=ts.length):(dM ts k).length=ts.length:=by simp[dM];omega
theorem Mm(ts:List zZ)(k:Nat)(b:k<ts.length):(dM ts k).set k ts[k]=dM ts (k+1):=by
 unfold dM;obtain⟨m,a⟩:∃m,ts.length-k=m+1:=⟨ts.length-k-1,by omega⟩;rw[fW _ _ (by simp;omega),qt,dP (by omega),jX,a,rA,nG,show ts.length-(k+1)=m from by omega,yM b,kH];rfl
theorem LI(ts:List zZ):dM ts ts.length=ts:=by simp[dM]
theorem Bv(ts:List zZ)(k:Nat)(h:∀x∈ts,x.num<=1000/\x.level=0):∀x∈vA ts k,x.num<=1000000/\x.level<=1000000:=by
 intro x a;unfold vA at a;rw[zI] at a;rcases a with a|a
 ·rw[zy] at a;obtain⟨y,b,rfl⟩:=a;have:=h y (fS b);unfold ju;split
  ·exact⟨by simp only;omega,GN (by omega)⟩
  ·omega
 ·have:=h x (dK a);omega
theorem eG{w:World}{d:Nat}{e:TypeId}{g n cap m:Nat}{f:List (Value×Value×Value)}(h:w.ownsRow d e 3 (.slice (some ⟨g,0,none⟩) n cap) m (QT f))(k:Nat)(i:k<f.length):
  ∃a b c,g<w.heap.size/\w.cell? ⟨g,k*3,none⟩=some a/\w.cell? ⟨g,k*3+1,none⟩=some b/\w.cell? ⟨g,k*3+2,none⟩=some c:=⟨_,_,_,oY h k i⟩
theorem CS{a6 ax:Nat}(w:World)(mb tb o cb sb:Nat)(t:List zh)(ns vs:κ)(u:List Nat)(l:zj)(va:Value)(h:mT lo w mb tb o cb t ns)(hs:g5 a6 w sb vs u)(hl:vs.length<=1000)(aE:∀y∈u,y<=1000)(ha:QD ax w va l.args)(am:l.args.length<=1000):
  Calls prog 160 #[(π mb),.agg #[.bool l.neg,.string l.pred,va],(π sb)] w fun e M=>∃tv,e=ε (.agg #[ι (zP t l.pred:Nat),tv])/\yh w.heap.size M tv (zK t ns vs u l).qg/\μ w M:=by
 obtain⟨i0,hi,ay,aF,az⟩:=info_parts Q1;obtain⟨ao,z,rfl⟩:=ha.qx;have ae:=fun W:World=>run_make (P:=prog) (w:=W) 202 284 i0 _ underlying202 hi ay .i64 .i64 (l.args.length:Int) (l.args.length:Int) (by omega) (Int.le_refl _) (by rw[az];omega) (by omega);rw[aF] at ae;have HF:=Q5 fun W J=>MA lo W tb o t l.pred (h.2.1.below J) h.2.2.2.1;have HT:=Q5 fun W x J=>KF W mb tb o cb sb t ns vs u x (h.below J) (hs.below J) hl;have S:Hid (∀x∈uj ns vs u l,x.num<=1000/\x.level=0):=fun x hx=>by
  simp only[uj,zy] at hx;obtain⟨y,_,rfl⟩:=hx;exact Mq ns vs u y aE h.2.2.2.2
 have HE:Hid ((zK t ns vs u l).qg=(uj ns vs u l).map (ju 0 (uj ns vs u l))):=rfl;have n:(uj ns vs u l).length=l.args.length:=by simp[uj]
 have al:Hid (∀k (hk:k<l.args.length) (aB:k<(uj ns vs u l).length),uH ns vs u l.args[k]=(uj ns vs u l)[k]):=fun k hk aB=>by simp[uj]
 obtain⟨ag,a7,aJ⟩:=h.1.boxed;have a4:w.cell? ⟨mb,0,none⟩=some (.pointer (some ⟨tb,o,none⟩)):=by rw[ag];rfl
 clear h hs ag;generalize uj ns vs u l=b at *;generalize zP t l.pred=E at *;generalize (yo t l.pred).isSome=fb at *;go_enter func160,ntmps160;go_upto_region 1 with fail
 go_quiet ((go_at_call 77;exact Calls.quiet_of_same (HF.out _ (by exact(by repeat'(first|with_reducible(first|apply zR|assumption|apply zN|apply zA|apply zD|apply zS)|go_size))))))
 go_upto_region 4 with fail
 have a:=zB (Ms ((((w.alloc (.cells #[.bool l.neg,.string l.pred,.slice ao l.args.length z] 90)).alloc (.cells #[ι 0,ν] 204)).drewN nq)) l.args.length 284 (.bool false) (ι 0) (ι 0) (by unfold maxLen;omega)) ((zo _ _).alloc (zg _) (.cells #[ι E,.slice (some ⟨w.heap.size+1+1,0,none⟩) l.args.length l.args.length] 204));have c:=Q6.new ((((w.alloc (.cells #[.bool l.neg,.string l.pred,.slice ao l.args.length z] 90)).alloc (.cells #[ι 0,ν] 204)).drewN nq).alloc (.cells (madeCells #[.bool false,ι 0,ι 0] (l.args.length*3)) 284)) #[ι E,.slice (some ⟨w.heap.size+1+1,0,none⟩) l.args.length l.args.length] 204;have d:=(((Q6.new (w.alloc (.cells #[.bool l.neg,.string l.pred,.slice ao l.args.length z] 90)) #[ι 0,ν] 204).below (zJ (zo _ _) nq)).below ((zo _ _).alloc (zg _) (.cells (madeCells #[.bool false,ι 0,ι 0] (l.args.length*3)) 284))).below ((zo _ _).alloc (zg _) (.cells #[ι E,.slice (some ⟨w.heap.size+1+1,0,none⟩) l.args.length l.args.length] 204));have U:μ w (((((w.alloc (.cells #[.bool l.neg,.string l.pred,.slice ao l.args.length z] 90)).alloc (.cells #[ι 0,ν] 204)).drewN nq).alloc (.cells (madeCells #[.bool false,ι 0,ι 0] (l.args.length*3)) 284)).alloc (.cells #[ι E,.slice (some ⟨w.heap.size+1+1,0,none⟩) l.args.length l.args.length] 204)):=(by repeat'(first|with_reducible(first|apply zR|assumption|apply zN|apply zA|apply zD|apply zS)|go_size));have L:(((w.alloc (.cells #[.bool l.neg,.string l.pred,.slice ao l.args.length z] 90)).alloc (.cells #[ι 0,ν] 204)).drewN nq).heap.size=w.heap.size+1+1:=by simp
 simp only[World.size_alloc,L] at a c d;clear L;generalize ((((w.alloc (.cells #[.bool l.neg,.string l.pred,.slice ao l.args.length z] 90)).alloc (.cells #[ι 0,ν] 204)).drewN nq).alloc (.cells (madeCells #[.bool false,ι 0,ι 0] (l.args.length*3)) 284)).alloc (.cells #[ι E,.slice (some ⟨w.heap.size+1+1,0,none⟩) l.args.length l.args.length] 204)=w3 at *;have aC:=U.size;have H0:Hid (QT (List.replicate l.args.length (Value.bool false,Value.int .i64 0,Value.int .i64 0))=QT ((dM b 0).map jL)):=by
  rw[Hid,dM,List.take_zero,pL,Nat.sub_zero,n,List.map_replicate];rfl
 rw[H0.out] at a;clear H0 ae a4 a7 HF;have a:=yr a (show w.heap.size<=w.heap.size+1+1 by omega);go_loopw [35] (fun aG wr=>∃k:Nat,k<=l.args.length/\aG=ι k/\Q6 wr (w.heap.size+1+1+1) #[ι E,.slice (some ⟨w.heap.size+1+1,0,none⟩) l.args.length l.args.length] 204/\Q6 wr (w.heap.size+1) #[ι 0,ν] 204/\wr.ownsRow w.heap.size 284 3 (.slice (some ⟨w.heap.size+1+1,0,none⟩) l.args.length l.args.length) l.args.length (QT ((dM b k).map jL))/\μ w wr) (fun i _=>l.args.length-(intOf i).toNat)
 case atStart=>exact⟨0,zv _,rfl,c,d,a,U⟩
 case round=>
  clear a c d;obtain⟨k,hk,rfl,c,d,a,m⟩:=hrel;have N:=m.size;by_cases r:k<l.args.length
  ·obtain⟨g,rfl,hg,F⟩:=ha.cell k r;have aP:=zl m hg F;have aK:g<wr.heap.size:=by omega
   have s:=Q5 (Mm b k (by omega));have av:=Q5 (al.out k r (by omega));have aL:=LD b k (by omega);obtain⟨e0,e1,e2,aq,D,V,T⟩:=eG a k (by simp;omega);have a8:=qT a;obtain⟨C,I,H⟩:=c.boxed;have aH:wr.cell? ⟨w.heap.size+1+1+1,1,none⟩=some (.slice (some ⟨w.heap.size+1+1,0,none⟩) l.args.length l.args.length):=by rw[C];rfl
   clear F;have a3:Hid (∀W,μ wr W->Calls prog 186 #[(π mb),.string l.args[k],(π sb)] W fun e M=>e=ε (.agg #[.bool b[k].var,ι (b[k].num:Nat),ι (b[k].level:Nat)])/\μ W M):=fun W J=>by
    have q:=HT.out W l.args[k] (Q9 m J);rw[av.out] at q;exact q
   generalize b[k]=tk at *;generalize l.args[k]=x at *;generalize (dM b k)=lk at *;go_wp2;go_region_held3 (fun M=>M.cell? ⟨w.heap.size+1+1+1,1,none⟩=some (.slice (some ⟨w.heap.size+1+1,0,none⟩) l.args.length l.args.length)) (first|go_keep|(go_simp;done)) (go_at_call 186;refine(a3.out _ (by exact(by repeat'(first|with_reducible(first|apply zR|assumption|apply zN|apply zA|apply zD|apply zS)|go_size)))).mono ?_;rintro e R ⟨rfl,O⟩;have j:μ wr R:=(zQ (by repeat'(first|with_reducible(first|apply zR|assumption|apply zN|apply zA|apply zD|apply zS)|go_size)) O (zg _));have B:=c.below j;have Q:=d.below j;have p:=zB a j;obtain⟨an,ad,ac⟩:=B.boxed;obtain⟨f0,f1,f2,a1,a0,aw,a9⟩:=eG p k (by simp;omega);have aj:=qT p;have au:=j.size)
   have f:=J1 p k (by simp;omega) (.bool tk.var) (ι tk.num) (ι tk.level);have HM:(lk.map jL).set k (.bool tk.var,ι tk.num,ι tk.level)=(dM b (k+1)).map jL:=by rw[←s.out,dU];rfl
   rw[HM] at f;have X:=((B.set_ne (show w.heap.size+1+1+1≠w.heap.size+1+1 by omega) (k*3) (.bool tk.var)).set_ne (show w.heap.size+1+1+1≠w.heap.size+1+1 by omega) (k*3+1) (ι tk.num)).set_ne (show w.heap.size+1+1+1≠w.heap.size+1+1 by omega) (k*3+2) (ι tk.level);have Y:=((Q.set_ne (show w.heap.size+1≠w.heap.size+1+1 by omega) (k*3) (.bool tk.var)).set_ne (show w.heap.size+1≠w.heap.size+1+1 by omega) (k*3+1) (ι tk.num)).set_ne (show w.heap.size+1≠w.heap.size+1+1 by omega) (k*3+2) (ι tk.level);have ab:μ w (((R.setCell ⟨w.heap.size+1+1,k*3,none⟩ (.bool tk.var)).setCell ⟨w.heap.size+1+1,k*3+1,none⟩ (ι tk.num)).setCell ⟨w.heap.size+1+1,k*3+2,none⟩ (ι tk.level)):=(((Q9 m j).setCell (by simp;omega) _).setCell (by simp;omega) _).setCell (by simp;omega) _;generalize ((R.setCell ⟨w.heap.size+1+1,k*3,none⟩ (.bool tk.var)).setCell ⟨w.heap.size+1+1,k*3+1,none⟩ (ι tk.num)).setCell ⟨w.heap.size+1+1,k*3+2,none⟩ (ι tk.level)=w5 at *;go_wp2;go_roundw
   case rel=>exact⟨k+1,by omega,by go_num,X,Y,f,ab⟩
   case measure=>simp[intOf];omega
  ·obtain rfl:k=l.args.length:=by omega
   rw[←n,LI] at a;rw[←n] at c;clear r hk;obtain⟨C,I,H⟩:=c.boxed;go_wp2;clear C I H;rw[←n] at am ⊢;clear U aC HT al n;go_loopw [52] (fun a2 wr=>∃k:Nat,k<=b.length/\a2=ι k/\Q6 wr (w.heap.size+1+1+1) #[ι E,.slice (some ⟨w.heap.size+1+1,0,none⟩) b.length b.length] 204/\Q6 wr (w.heap.size+1) #[ι 0,ν] 204/\wr.ownsRow w.heap.size 284 3 (.slice (some ⟨w.heap.size+1+1,0,none⟩) b.length b.length) b.length (QT ((vA b k).map jL))/\μ w wr) (fun i _=>b.length-(intOf i).toNat)
   case atStart=>exact⟨0,zv _,rfl,c,d,by rw[NM];exact a,m⟩
   case round=>
    clear a c d m N;obtain⟨k,hk,rfl,c,d,a,m⟩:=hrel;have N:=m.size;by_cases r:k<b.length
    ·have ap:=MX b k;have G:=Q5 (OZ b k r);have s:=Q5 (Li b k r);have ah:Hid (yN ⟨E,vA b k⟩ b[k].num=yN ⟨0,b⟩ b[k].num):=K1 (DJ b k) _ _ _;have A:Hid (ju 0 b b[k]=if b[k].var then{b[k] with level:=(yN ⟨0,b⟩ b[k].num).getD 0} else b[k]):=rfl;have K:=Bv b k S.out;have aI:=(S.out b[k] (zs r)).1;obtain⟨aq,D,V,T⟩:=oY a k (by simp;omega);have af:k<(vA b k).length:=by omega
     have ai:(vA b k)[k]=b[k]:=by have q:=G.out;rw[yq af] at q;simpa using q
     simp only[uM,ai,jL] at D V T;have a8:=qT a;obtain⟨C,I,H⟩:=c.boxed;have ak:Hid (yh w.heap.size wr (.slice (some ⟨w.heap.size+1+1,0,none⟩) b.length b.length) (vA b k)):=⟨by rw[ap];exact a,by omega,K⟩;have aD:Hid (∀W,μ wr W->Calls prog 187 #[.agg #[ι E,.slice (some ⟨w.heap.size+1+1,0,none⟩) b.length b.length],ι (b[k].num:Nat)] W fun e M=>e=ε (.tuple #[ι (((yN ⟨0,b⟩ b[k].num).getD 0:Nat):Int),.bool (yN ⟨0,b⟩ b[k].num).isSome])/\μ W M):=fun W J=>by
      have q:=Ev W _ E b[k].num (vA b k) (ak.out.below J) (by omega);rw[ah.out] at q;exact q
     clear af ai ah K ak;generalize b[k]=tk at *;generalize vA b k=aa at *;generalize (yN ⟨0,b⟩ tk.num).getD 0=Z at *;generalize (yN ⟨0,b⟩ tk.num).isSome=lb at *;cases hv:tk.var with
     |false=>
      rw[hv] at D A;simp only[gL,if_false] at A;go_wp2;have aA:Hid (aa=vA b (k+1)):=by
       rw[Hid,←s.out,A.out];exact(eX G.out).symm
      go_roundw
      case rel=>exact⟨k+1,by omega,by go_num,c.below (by repeat'(first|with_reducible(first|apply zR|assumption|apply zN|apply zA|apply zD|apply zS)|go_size)),d.below (by repeat'(first|with_reducible(first|apply zR|assumption|apply zN|apply zA|apply zD|apply zS)|go_size)),by rw[←aA.out];exact zB a (by repeat'(first|with_reducible(first|apply zR|assumption|apply zN|apply zA|apply zD|apply zS)|go_size)),zQ m (by repeat'(first|with_reducible(first|apply zR|assumption|apply zN|apply zA|apply zD|apply zS)|go_size)) (zg _)⟩
      case measure=>simp[intOf];omega
     |true=>
      rw[hv] at D A;simp only[if_true] at A;have aM:wr.heap.size≠w.heap.size+1+1:=by omega
      go_upto_region 13 with (go_at_call 187;refine(aD.out _ (by exact(by repeat'(first|with_reducible(first|apply zR|assumption|apply zN|apply zA|apply zD|apply zS)|go_size)))).mono ?_;rintro e R ⟨rfl,O⟩;have j:μ wr R:=(zQ (by repeat'(first|with_reducible(first|apply zR|assumption|apply zN|apply zA|apply zD|apply zS)|go_size)) O (zg _));have B:=c.below j;have Q:=d.below j;have p:=zB a j;obtain⟨an,ad,ac⟩:=B.boxed;obtain⟨f0,f1,f2,a1,a0,aw,a9⟩:=eG p k (by simp;omega);have aj:=qT p;have au:=j.size)
      have f:=uZ p (k*3+2) (by rw[rg];simp;omega) (ι Z);have X:=B.set_ne (show w.heap.size+1+1+1≠w.heap.size+1+1 by omega) (k*3+2) (ι Z);have Y:=Q.set_ne (show w.heap.size+1≠w.heap.size+1+1 by omega) (k*3+2) (ι Z);have ab:μ w (R.setCell ⟨w.heap.size+1+1,k*3+2,none⟩ (ι Z)):=((Q9 m j).setCell (by simp;omega) _);have HM:Hid ((QT (aa.map jL)).set (k*3+2) (ι Z)=QT ((vA b (k+1)).map jL)):=by
       rw[Hid,←s.out,A.out];exact JK aa k tk Z G.out
      rw[HM.out] at f;clear D V T;go_wp2;generalize R.setCell ⟨w.heap.size+1+1,k*3+2,none⟩ (ι Z)=w5 at *;go_roundw
      case rel=>exact⟨k+1,by omega,by go_num,X,Y,f,ab⟩
      case measure=>simp[intOf];omega
    ·obtain rfl:k=b.length:=by omega
     rw[D1] at a;obtain⟨C,I,H⟩:=c.boxed;obtain⟨a5,aN,aO⟩:=d.boxed;have ar:Hid (∀x∈b.map (ju 0 b),x.num<=1000000/\x.level<=1000000):=by rw[←D1];exact Bv b _ S.out
     go_wp2
     (try simp only[Exit.inBlock,Exit.then])
     refine zL (v:=.agg #[ι E,.slice (some ⟨w.heap.size+1+1,0,none⟩) b.length b.length]) (by simp[results,results160,go_sem,a5]) rfl ⟨_,rfl,?_,(m.setCell (by simp) _).setCell (by simp) _⟩;rw[HE.out];refine⟨?_,by simpa using am,ar.out⟩;rw[uu];exact xO a (((QH.refl (w.heap.size+1) wr).setCell 0 _).setCell 1 _) d (by decide)
end
end Go.Proofs.YteampbddflhngaaGreat
