package tests

import (
	"strings"

	"loop.example/productprograms/impl"
)

// A model of relations: texts that are built and read byte by byte, pair by
// pair.

var (
	noPairs    = strings.Repeat("0", 729)
	everyPair  = strings.Repeat("1", 729)
	equalPairs = modelRel(func(i, j int) bool { return i == j })
)

// modelRel returns the text of the pairs, by the numbers of their states, that a
// function picks out.
func modelRel(has func(i, j int) bool) string {
	text := make([]byte, 729)
	for k := range text {
		text[k] = '0'
		if has(k/27, k%27) {
			text[k] = '1'
		}
	}
	return string(text)
}

func inRel(r string, i, j int) bool { return r[27*i+j] == '1' }

// singlePair returns the relation of one pair.
func singlePair(i, j int) string {
	return modelRel(func(k, l int) bool { return i == k && j == l })
}

// otherwise returns the relation with one byte exchanged.
func otherwise(r string, at int) string {
	return r[:at] + map[byte]string{'0': "1", '1': "0"}[r[at]] + r[at+1:]
}

// modelNarrow puts the values of a second state in place of its letters, so that
// a wide test becomes one of the first state.
func modelNarrow(w string, t impl.State) string {
	digit := func(n int) string { return "012"[n : n+1] }
	return strings.NewReplacer("X", digit(t.X), "Y", digit(t.Y), "Z", digit(t.Z)).Replace(w)
}

// modelRelOf returns the pairs of which a wide test is true.
func modelRelOf(w string) string {
	states := allStates()
	return modelRel(func(i, j int) bool {
		is, _, _ := modelTest(modelNarrow(w, states[j]), states[i])
		return is
	})
}

func modelWideValid(w string) bool { return modelTestValid(modelNarrow(w, impl.State{})) }

// modelCompose tries all states between two others.
func modelCompose(r, q string) string {
	return modelRel(func(i, j int) bool {
		for k := range 27 {
			if inRel(r, i, k) && inRel(q, k, j) {
				return true
			}
		}
		return false
	})
}

// modelClose goes from each state along pairs until it comes to no new state.
func modelClose(r string) string {
	var reached [27][27]bool
	for i := range reached {
		open := []int{i}
		for len(open) > 0 {
			k := open[0]
			open = open[1:]
			if reached[i][k] {
				continue
			}
			reached[i][k] = true
			for j := range 27 {
				if inRel(r, k, j) {
					open = append(open, j)
				}
			}
		}
	}
	return modelRel(func(i, j int) bool { return reached[i][j] })
}

func modelTurn(r string) string {
	return modelRel(func(i, j int) bool { return inRel(r, j, i) })
}

func modelNot(r string) string {
	return modelRel(func(i, j int) bool { return !inRel(r, i, j) })
}

func modelRelImage(r, p string) string {
	return modelSet(func(t impl.State) bool {
		for i := range p {
			if p[i] == '1' && inRel(r, i, numberOf(t)) {
				return true
			}
		}
		return false
	})
}

func modelShadow(r, p string) string {
	return modelSet(func(s impl.State) bool {
		for j := range p {
			if p[j] == '0' && inRel(r, numberOf(s), j) {
				return false
			}
		}
		return true
	})
}

// modelEquivalence looks at pairs, and at states between them, as the chapter
// tells.
func modelEquivalence(r string) bool {
	for i := range 27 {
		for j := range 27 {
			if i == j && !inRel(r, i, i) || inRel(r, i, j) != inRel(r, j, i) {
				return false
			}
		}
	}
	return modelWithin(modelCompose(r, r), r)
}

// modelAgree returns the pairs with the same values of variables.
func modelAgree(vars string) string {
	states := allStates()
	return modelRel(func(i, j int) bool {
		for _, v := range strings.Split(vars, "") {
			if n, _, _ := modelExpr(v, states[i]); modelWith(states[j], v, n) != states[j] {
				return false
			}
		}
		return true
	})
}

// modelRelOfProgram reads the pairs from the table of the program.
func modelRelOfProgram(p string) string {
	m := tableOf(modelTree(p))
	return modelRel(func(i, j int) bool { return m.finals[i][j] })
}

// lettersToAgreeOn returns all texts that are letters of variables for AgreeOn.
func lettersToAgreeOn() []string {
	return []string{"", "x", "y", "z", "xy", "xz", "yz", "xyz"}
}

// brokenAgreements returns texts that are no letters of variables for AgreeOn.
func brokenAgreements() []string {
	return []string{
		"xx", "yy", "zz", "xxx", "xxy", "xyy", "xyx", "xzz", "xyzz", "xyzx", "xxyz", "xyyz", "xyzxyz",
		"yx", "zx", "zy", "xzy", "yxz", "yzx", "zxy", "zyx", "X", "Y", "Z", "XY", "xY", "xX", "xyZ", "w", "a", "t", "0", "1", "=xX", "xyz1",
		" ", " x", "x ", "x y", "x,y", "x\n", "xyz ", "\x00", "x\x00", "\xff", "x\xff", "xy\x80z", "ẋ", "xẏ", "\u0178", strings.Repeat("x", 200), strings.Repeat("xyz", 1000), strings.Repeat("z", 1<<20),
	}
}

// longWide returns a wide test of as many bytes: an odd number of at least
// three.
func longWide(length int) string {
	return "=X" + longSum(length-2)
}

// wideTests returns tests of the letters of both states, of those of one alone,
// and of none.
func wideTests() []string {
	exprs := []string{"x", "X", "y", "Y", "z", "Z", "0", "2", "+x*2Y", "-Zz", "*XY", "+X1", "-01"}
	list := append([]string{"t", "f", "!t"}, compounds("=<", exprs, exprs)...)
	small := []string{"t", "=xX", "<Y1", "!<zY", "&=x1=X2", "|f<yZ"}
	list = append(list, compounds("&|", small, small)...)
	return append(list, "&=xX&=yY=zZ", "&=xX&=yY&=zZt", "|<xX&=xX|<yY&=yY<zZ", "=+x+y+z1+X+Y+Z2", "!!!=Xy", longWide(199), "!"+longWide(199), strings.Repeat("!", 199)+"f", strings.Repeat("!", 197)+"=zZ", strings.Repeat("!", 196)+"<XY")
}

// textsThatAreNoWideTests returns texts that are wrong with any letters.
func textsThatAreNoWideTests() []string {
	list := []string{
		"", " ", "\n", "\x00", "\xff", "x", "X", "0", "s", "T", "F", "W", "E", "=xW", "=Xw", "=XA", "=XE", "=XT", "=XF", "=x\u0178", "=XS", "=X3", "=X/", "=X[", "=X\xff", "=X\x80", "=\u0158x",
		"=X", "<Y", "==XY", "=XYZ", "=xX ", " =xX", "=x X", "=xXs", "tX", "Xt", "!X", "!x", "&tX", "|Xt", "&=xXt=", "+xX", "=t1", "=tX", "=XtX", "=+Xx", "=X!t",
		"x=X", "T=xX", "=xX=yY", "&=xX", "&=xX&=yY", "(=xX)", ">xX", "!!", "=aX1", "aX1", "ax1", "~=xX", "@=xXs", "?=xXss", ";ss", "/aX1s", "E", "EXX",
		longWide(201), "!" + longWide(201), strings.Repeat("!", 200) + "t", strings.Repeat("!", 198) + "=xX", strings.Repeat("&", 5000) + strings.Repeat("t", 5001),
		longWide(5001), strings.Repeat("!", 1<<20) + "t", strings.Repeat("X", 1<<20), noStates, noPairs,
	}
	for _, e := range append(someExprs()[:200], "X", "+Xx", "-1*YZ") {
		list = append(list, e, "="+e, "!"+e)
	}
	return append(list, brokenEverywhere()[:9]...)
}

// A chain leads from each state to the next one in some order, and has no other
// pairs.
func chain(order [27]int) string {
	next := map[[2]int]bool{}
	for k := range 26 {
		next[[2]int{order[k], order[k+1]}] = true
	}
	return modelRel(func(i, j int) bool { return next[[2]int{i, j}] })
}

// chains returns chains in several orders: upwards, downwards, and others.
func chains() []string {
	var list []string
	for _, step := range []int{1, 26, 2, 5, 7, 10, 13, 20, 25} {
		var order [27]int
		for k := range order {
			order[k] = (3 + k*step) % 27
		}
		list = append(list, chain(order))
	}
	return list
}

// scattered returns the relation of pairs without any pattern, one of as many as
// told.
func scattered(seed, among uint32) string {
	return modelRel(func(i, j int) bool {
		seed = seed*1664525 + 1013904223
		return seed>>12%among == 0
	})
}

// partitions returns equivalences: those of AgreeOn, and others of classes of
// different sizes.
func partitions() []string {
	list := []string{}
	for _, vars := range lettersToAgreeOn() {
		list = append(list, modelAgree(vars))
	}
	for _, classes := range []func(i int) int{
		func(i int) int { return i % 2 }, func(i int) int { return i * i % 7 }, func(i int) int { return i / 26 }, func(i int) int { return max(i, 1) },
		func(i int) int { return min(i, 14) }, func(i int) int { return i * 5 % 27 / 4 }, func(i int) int { return i ^ i>>2 },
	} {
		list = append(list, modelRel(func(i, j int) bool { return classes(i) == classes(j) }))
	}
	return list
}

// someRels returns relations of every form.
func someRels() []string {
	list := []string{noPairs, everyPair, equalPairs, modelNot(equalPairs)}
	for _, k := range []int{0, 1, 26, 27, 28, 364, 400, 701, 702, 728} {
		list = append(list, otherwise(noPairs, k), otherwise(everyPair, k), otherwise(equalPairs, k))
	}
	list = append(list, chains()...)
	list = append(list, partitions()...)
	for _, w := range []string{"=xY", "<xX", "!<Xx", "=x1", "=X1", "&=x0=Y2", "=+xX1", "|<yZ=xX", "&<x1<Y2", "=*xXz"} {
		list = append(list, modelRelOf(w))
	}
	for _, p := range []string{"s", "~f", "@ts", "ax+x1", "ax0", "/ax+x1s", "~=xy", "@<x2/ax+x1ax0", countingBody, "@<x2;ax+x1/say+y1", "/@=x1s~=y0"} {
		list = append(list, modelRelOfProgram(p))
	}
	for n, among := range []uint32{2, 3, 5, 10, 15, 20, 27, 40, 60, 100, 200} {
		list = append(list, scattered(uint32(n), among))
	}
	return list
}

// brokenRels returns texts that are no relations.
func brokenRels() []string {
	list := []string{
		"", "0", "1", "t", "f", "=xX", "x", "s", noStates, everyState, noPairs[1:], everyPair[1:], noPairs + "0", everyPair + "1",
		everyPair + "\x00", everyPair + "\n", " " + everyPair, " " + everyPair[1:], noPairs[27:], noPairs + noStates, everyPair + everyState, everyPair + everyPair,
		// 729 bytes, and 729 characters.
		strings.Repeat("é", 364) + "1", strings.Repeat("é", 729), strings.Repeat("\x00", 729), strings.Repeat("\x01", 729), strings.Repeat("\xff", 729), strings.Repeat("1", 1<<20),
		strings.Repeat(everyState[1:]+"\n", 27), strings.Repeat(noStates+"\n", 26)[:728] + "0",
	}
	for n, bad := range []string{"2", "/", " ", "-", "t", "f", "x", "X", "O", "l", "\x00", "\x01", "\n", "\x80", "\xff", "p", "q"} {
		for _, i := range []int{0, 26, 27, 28, 100 + n, 701, 702, 728} {
			list = append(list, everyPair[:i]+bad+everyPair[i+1:], noPairs[:i]+bad+noPairs[i+1:])
		}
	}
	return list
}
