package tests

import (
	"fmt"
	"testing"

	"loop.example/g00410/impl"
)

// That an image is not right is told ahead of all that is wrong about a path or a number.
func TestP1PathsOfWrongImages(t *testing.T) {
	for _, m := range wrongImages() {
		for _, path := range []string{"/", "/d/d/e", "/nobody", "/f/x", "", "d", "/d/", "//", "/D", "/a/b/c/d/e/f/g"} {
			for _, c := range imagePathCalls(m.image, path, 0, 2) {
				wantCode(t, fmt.Sprintf("%s, %q", m.name, path), c, impl.ErrBad)
			}
		}
		for _, a := range []int{0, 1, 2, 6, -1, 16} {
			for _, b := range []int{0, 1, 2, 6, -1, 16} {
				wantCode(t, fmt.Sprint(m.name, ", ", a, " and ", b), ask("Beneath", impl.Beneath, m.image, a, b), impl.ErrBad)
			}
		}
	}
}

func TestP1NoPaths(t *testing.T) {
	for _, m := range []namedImage{{"tree", treeImage()}, {"the root alone", bareImage()}, {"full", fullImage()}} {
		for _, text := range noPaths() {
			for _, c := range imagePathCalls(m.image, text, 0, 0)[:2] {
				wantCode(t, fmt.Sprintf("%s, %.30q", m.name, text), c, impl.ErrName)
			}
		}
	}
}

// That a text is too long is told ahead of all else.
func TestP1LongPaths(t *testing.T) {
	wrong := wrongImages()
	for _, m := range []namedImage{{"tree", treeImage()}, {"nothing", impl.Image{}}, wrong[0], wrong[len(wrong)-1]} {
		for _, text := range longTexts() {
			for _, c := range imagePathCalls(m.image, text, 0, 0)[:2] {
				wantCode(t, fmt.Sprintf("%s, %.30q", m.name, text), c, impl.ErrLong)
			}
		}
	}
}

func TestP1PathsUntouched(t *testing.T) {
	for _, m := range append(append(rightImages(), namedImage{"tree", treeImage()}), wrongImages()...) {
		calls := pathCalls(m.image, "/", 0, 0)
		calls = append(calls, pathCalls(m.image, "/d/d/e", 3, 2)...)
		calls = append(calls, pathCalls(m.image, "/b/c/d/e/f/g", 2, 8)...)
		calls = append(calls, pathCalls(m.image, "/a/x", 1, 9)...)
		calls = append(calls, pathCalls(m.image, "/x/y", 16, -1)...)
		calls = append(calls, pathCalls(m.image, "", -1, 16)...)
		calls = append(calls, pathCalls(m.image, "/a/b/c/d/e/f/g", 0, 15)...)
		wantPromise1(t, m.name, calls)
	}
	for _, text := range append(noPaths(), longTexts()...) {
		wantPromise1(t, fmt.Sprintf("%.30q", text), pathCalls(smallImage(), text, 0, 3))
	}
}
